/- For every two float64s and every number the statement TtlGrows about ttl.Ticks and ttl.Share returns true, and changes nothing. Conditions: none. -/
import Derived.Test.YtleldlcjhaaadaaTtlR
import Derived.Test.YtleldlcjhaaadaaClass
import Derived.Test.YtleldlcjhaaadaaFrame
import Derived.Laws.Cover2
import Derived.Deep.QuietTactic
import Derived.BigQuiet
import Derived.StillTailTactics
import Derived.WalkSmall
import Derived.Deep.DeepCutAuto
import Derived.Deep.RegionWith
import Derived.Deep.LoopGhost
import Derived.ProofKit
import Derived.OpenShut
import Derived.ShutString
import Derived.SizedLaws
namespace Go.Proofs.Ytleldlcjhaaadaa.ttlGrows
open Go.ChangeShapes Go.WideShapes Go.ChangeAt Go.RowKit Go.Lib
open Go.ChangeMaps (open_string shut_string)
set_option linter.unusedVariables false

theorem own : ownKnob Try.prog.godebug = none := by kernel_rfl

open Flt
set_option maxHeartbeats 4000000 in
set_option maxRecDepth 100000 in
theorem core (x y : Nat) (n t ex u ey c gx d gy al i : Int) (L : Bool) (w : World)
    (hL : (FloatKind.f64.format.order x y == some .lt || FloatKind.f64.format.order x y == some .eq) = L)
    (C1 : Hid (∀ w, Calls Try.prog 10 #[.float .f64 x] w fun e w' => e = .returned (.tuple #[.int .u64 t, .int .i64 ex]) ∧ w = w'))
    (C2 : Hid (∀ w, Calls Try.prog 10 #[.float .f64 y] w fun e w' => e = .returned (.tuple #[.int .u64 u, .int .i64 ey]) ∧ w = w'))
    (C3 : Hid (∀ w, Calls Try.prog 12 #[.float .f64 x, .int .i64 n] w fun e w' => e = .returned (.tuple #[.int .i64 c, .int .i64 gx]) ∧ w = w'))
    (C4 : Hid (∀ w, Calls Try.prog 12 #[.float .f64 y, .int .i64 n] w fun e w' => e = .returned (.tuple #[.int .i64 d, .int .i64 gy]) ∧ w = w'))
    (C5 : Hid (∀ w, Calls Try.prog 12 #[.float .f64 4607182418800017408, .int .i64 n] w fun e w' => e = .returned (.tuple #[.int .i64 al, .int .i64 i]) ∧ w = w'))
    (hT : ex = 1 ∨ (ex = 0 ∧ ey = 1 ∧ L = false) ∨ (ex = 0 ∧ ey = 0 ∧ L = false) ∨ (ex = 0 ∧ ey = 0 ∧ L = true ∧ t ≤ u))
    (hS : (n < 0 ∧ gx = 1 ∧ i = 1) ∨ (100000 < n ∧ gx = 1 ∧ i = 1) ∨ (0 ≤ n ∧ n ≤ 100000 ∧ i = 0 ∧ al = n ∧ (gx = 1 ∨ (gx = 0 ∧ 0 ≤ c ∧ c ≤ n ∧ (gy = 1 ∨ (gy = 0 ∧ (L = false ∨ (L = true ∧ c ≤ d)))))))) :
    Calls Try.prog 5 #[.float .f64 x, .float .f64 y, .int .i64 n] w fun e w' => e = .returned (.bool true) ∧ Below w.heap.size w w' := by
  rcases hT with rfl | ⟨rfl, rfl, rfl⟩ | ⟨rfl, rfl, rfl⟩ | ⟨rfl, rfl, rfl, htu⟩ <;>
    rcases hS with ⟨hn, rfl, rfl⟩ | ⟨hn, rfl, rfl⟩ | ⟨hn, hn', rfl, rfl, rfl | ⟨rfl, hc, hc', rfl | ⟨rfl, hQ | ⟨hQ, hcd⟩⟩⟩⟩
  all_goals (try subst hQ)
  all_goals (try (exfalso; exact Bool.noConfusion hQ))
  all_goals (try (have hn2 : ¬ n < 0 := by omega))
  all_goals (try (have hn4 : ¬ 0 ≤ n := by omega))
  all_goals (try (have hn5 : ¬ n ≤ 100000 := by omega))
  all_goals (try (have hn6 : 0 ≤ n := by omega))
  all_goals (try (have hn3 : ¬ 100000 < n := by omega))
  all_goals (try (have htu2 : ¬ u < t := by omega))
  all_goals (try (have hcd2 : ¬ d < c := by omega))
  all_goals
    go_enter Try.func5, Try.ntmps5
    go_wp2_with fail
    refine (C1.out _).mono ?_
    rintro e w0 ⟨rfl, rfl⟩
    go_wp2_with fail
    refine (C2.out _).mono ?_
    rintro e w0 ⟨rfl, rfl⟩
    go_wp2_with fail
    refine (C3.out _).mono ?_
    rintro e w0 ⟨rfl, rfl⟩
    go_wp2_with fail
    refine (C4.out _).mono ?_
    rintro e w0 ⟨rfl, rfl⟩
    go_wp2_with fail
    refine (C5.out _).mono ?_
    rintro e w0 ⟨rfl, rfl⟩
    go_wp2_with fail
    refine (fixed_any _).mono ?_
    rintro e w0 ⟨rfl, rfl⟩
    go_wp2_with fail
    go_ret
    first
      | exact ⟨rfl, Below.refl _ _⟩
      | (refine ⟨?_, Below.refl _ _⟩; show Ending.returned (.bool (!decide (n ≤ 100000))) = _; rw [decide_eq_false (by omega)]; rfl)

theorem le_of (x y : Nat) (hx : x < 18446744073709551616) (hy : y < 18446744073709551616) (h : (FloatKind.f64.format.order x y == some .lt || FloatKind.f64.format.order x y == some .eq) = true) :
    x % 9223372036854775808 ≤ 9218868437227405312 ∧ y % 9223372036854775808 ≤ 9218868437227405312 ∧ key x ≤ key y := by
  by_cases nx : 9218868437227405312 < x % 9223372036854775808
  · rw [onl x y nx] at h; exact absurd h (by decide)
  by_cases ny : 9218868437227405312 < y % 9223372036854775808
  · rw [onr x y ny] at h; exact absurd h (by decide)
  by_cases g : key y < key x
  · rw [ogt x y hx hy (by omega) (by omega) g] at h; exact absurd h (by decide)
  · omega

theorem ticks_grow (x y : Nat) (hx : x < 18446744073709551616) (hy : y < 18446744073709551616) (L : Bool) (hL : (FloatKind.f64.format.order x y == some .lt || FloatKind.f64.format.order x y == some .eq) = L) :
    te x = 1 ∨ (te x = 0 ∧ te y = 1 ∧ L = false) ∨ (te x = 0 ∧ te y = 0 ∧ L = false) ∨ (te x = 0 ∧ te y = 0 ∧ L = true ∧ tk x ≤ tk y) := by
  have kx := key_spec x
  have ky := key_spec y
  have cx := tk_cases x hx
  have cy := tk_cases y hy
  cases L
  · simp only [and_true]
    have : te x = 1 ∨ te x = 0 := by omega
    have : te y = 1 ∨ te y = 0 := by omega
    omega
  · obtain ⟨nx, ny, hk⟩ := le_of x y hx hy hL
    rcases cx with cx | ⟨_, cx | cx | cx⟩
    · omega
    · omega
    · refine .inr (.inr (.inr ⟨by omega, by omega, rfl, ?_⟩))
      omega
    · refine .inr (.inr (.inr ⟨by omega, by omega, rfl, ?_⟩))
      have h64 := fl_lt_of x (by omega)
      have hm := fl_mono (show x ≤ y by omega)
      omega

theorem share_of (x : Nat) (n : Nat) (hx : x < 18446744073709551616) (hn : n ≤ 100000) :
    ∃ c g : Int, (∀ w, Calls Try.prog 12 #[.float .f64 x, .int .i64 (n : Int)] w fun e w' => e = .returned (.tuple #[.int .i64 c, .int .i64 g]) ∧ w = w') ∧
      ((g = 1 ∧ ¬ inS x) ∨ (g = 0 ∧ inS x ∧ c = ((fl (shr x n) : Nat) : Int))) := by
  by_cases h : inS x
  · exact ⟨_, 0, fun w => share_yes x n w h hn, .inr ⟨rfl, h, rfl⟩⟩
  · exact ⟨0, 1, fun w => share_no x n w hx (.inl h), .inl ⟨rfl, h⟩⟩

set_option maxHeartbeats 1000000 in
theorem walk (a0 a1 : Nat) (a2 : Int) (w0 : (Lit.float .f64 a0).wf = true) (w1 : (Lit.float .f64 a1).wf = true) (w2 : (Lit.int .i64 a2).wf = true) (w : World) :
    Calls Try.prog 5 #[.float .f64 a0, .float .f64 a1, .int .i64 a2] w fun e w' => e = .returned (.bool true) ∧ Below w.heap.size w w' := by
  have hx : a0 < 18446744073709551616 := by simpa [Lit.wf] using w0
  have hy : a1 < 18446744073709551616 := by simpa [Lit.wf] using w1
  obtain ⟨L, hL⟩ : ∃ L, (FloatKind.f64.format.order a0 a1 == some .lt || FloatKind.f64.format.order a0 a1 == some .eq) = L := ⟨_, rfl⟩
  have hT := ticks_grow a0 a1 hx hy L hL
  by_cases hn : a2 < 0
  · exact core a0 a1 a2 _ _ _ _ _ _ _ _ _ _ L w hL (Lib.hid (fun w => ticks_any a0 w hx)) (Lib.hid (fun w => ticks_any a1 w hy)) (Lib.hid (fun w => share_no a0 a2 w hx (.inr (.inl hn)))) (Lib.hid (fun w => share_no a1 a2 w hy (.inr (.inl hn)))) (Lib.hid (fun w => share_no _ a2 w (by omega) (.inr (.inl hn)))) hT (.inl ⟨hn, rfl, rfl⟩)
  by_cases hn2 : 100000 < a2
  · exact core a0 a1 a2 _ _ _ _ _ _ _ _ _ _ L w hL (Lib.hid (fun w => ticks_any a0 w hx)) (Lib.hid (fun w => ticks_any a1 w hy)) (Lib.hid (fun w => share_no a0 a2 w hx (.inr (.inr hn2)))) (Lib.hid (fun w => share_no a1 a2 w hy (.inr (.inr hn2)))) (Lib.hid (fun w => share_no _ a2 w (by omega) (.inr (.inr hn2)))) hT (.inr (.inl ⟨hn2, rfl, rfl⟩))
  obtain ⟨n, rfl⟩ := Int.eq_ofNat_of_zero_le (show 0 ≤ a2 by omega)
  obtain ⟨c, g, hc, hc'⟩ := share_of a0 n hx (by omega)
  obtain ⟨d, h, hd, hd'⟩ := share_of a1 n hy (by omega)
  have h1 := fun w => share_yes 4607182418800017408 n w (by unfold inS; omega) (by omega)
  rw [shr_one n (by omega)] at h1
  refine core a0 a1 n _ _ _ _ _ _ _ _ _ _ L w hL (Lib.hid (fun w => ticks_any a0 w hx)) (Lib.hid (fun w => ticks_any a1 w hy)) (Lib.hid hc) (Lib.hid hd) (Lib.hid h1) hT (.inr (.inr ⟨by omega, by omega, rfl, rfl, ?_⟩))
  rcases hc' with ⟨rfl, _⟩ | ⟨rfl, ix, rfl⟩
  · exact .inl rfl
  have ix' := ix
  unfold inS at ix'
  obtain ⟨_, _, _, _, _, h5, _⟩ := shr_le a0 n (by omega) (by omega)
  refine .inr ⟨rfl, by omega, by omega, ?_⟩
  rcases hd' with ⟨rfl, _⟩ | ⟨rfl, iy, rfl⟩
  · exact .inl rfl
  refine .inr ⟨rfl, ?_⟩
  cases L
  · exact .inl rfl
  · refine .inr ⟨rfl, ?_⟩
    unfold inS at iy
    obtain ⟨nx, ny, hk⟩ := le_of a0 a1 hx hy hL
    have kx := key_spec a0
    have ky := key_spec a1
    have := fl_mono (shr_mono a0 a1 n (by omega))
    omega

set_option maxRecDepth 100000 in
theorem lifted (os : Os) (started : os.Started) (H : Type) (enc : TypeId × Value → H) :
    ReturnsInHanded {} Try.checked os 5 .any (Rows.ttlGrowsSpec.pre6 enc Try.prog Try.f5 Rows.ttlGrowsRow.domain false) (Rows.ttlGrowsSpec.post enc Try.prog Try.f5 false true false false) := by
  refine returnsInHanded_of_change (C := Try.checked) own started (by kernel_rfl) Try.func5
    (ChangeSpec.witness6 (enc := enc) (C := Try.checked) false ⟨#[], #[.float .f64 0, .float .f64 0, .int .i64 0], []⟩ 8 (by kernel_rfl) (by kernel_rfl) (by kernel_rfl) (by kernel_rfl)) ?_
  intro W base args ds gs before hval0 hW hcnd _
  have hval : ∀ (j : Nat) t v, Try.f5.params[j]? = some t → args[j]? = some v → Value.okWide Try.prog W .any base t v := hval0
  have hW' := hW
  obtain ⟨p, q, hA0, hV, rfl, hfz, hnd⟩ := hW
  have hA : DataW.TrodAll enc Try.prog W 0 (fun _ => true) true Try.f5.params.toList args.toList ds p := hA0
  rw [Try.params5] at hA hval
  obtain ⟨v0, vs0, d0, ds0, p0, q0, hargs, rfl, rfl, h0, r0⟩ := trodAll_cons hA
  obtain ⟨v1, vs1, d1, ds1, p1, q1, rfl, rfl, rfl, h1, r1⟩ := trodAll_cons r0
  obtain ⟨v2, vs2, d2, ds2, p2, q2, rfl, rfl, rfl, h2, r2⟩ := trodAll_cons r1
  obtain ⟨rfl, rfl, rfl⟩ := trodAll_nil r2
  obtain rfl : args = #[v0, v1, v2] := by cases args; simp_all
  obtain ⟨rfl, rfl⟩ := trodVars_none hV
  obtain ⟨a0, rfl, rfl, rfl, w0⟩ := open_float Try.underlying22 (hval 0 22 v0 rfl rfl) h0
  obtain ⟨a1, rfl, rfl, rfl, w1⟩ := open_float Try.underlying22 (hval 1 22 v1 rfl rfl) h1
  obtain ⟨a2, rfl, rfl, rfl, w2⟩ := open_int Try.underlying3 (hval 2 3 v2 rfl rfl) h2
  clear hA0 hval0
  simp only [List.append_nil] at hW'
  refine (walk a0 a1 a2 w0 w1 w2 W).mono fun e W' ⟨he, hg⟩ => ?_
  subst he
  exact ⟨_, rfl, post_plain hW' (fun _ _ _ => (trodAll_cons_mk (shut_bool Try.underlying4 _) trodAll_mk0)) (fun sp => (trodAll_cons_mk (shut_float Try.underlying22 w0) (trodAll_cons_mk (shut_float Try.underlying22 w1) (trodAll_cons_mk (shut_int Try.underlying3 w2) trodAll_mk0)))) (fun _ => rfl) hg (ok_one (by kernel_rfl) rfl (okWide_bool_mk Try.underlying4 _))⟩

theorem over : Rows.ttlGrowsRow.holds Try.pinned (OpenSpec.ofChange Rows.ttlGrowsSpec) :=
  OpenClaim.holds_of_wide 5 Try.f5 rfl rfl rfl rfl rfl rfl rfl ⟨rfl, rfl, rfl, rfl, rfl⟩ rfl rfl rfl rfl rfl (by kernel_rfl) Try.func5 (by kernel_rfl)
    (of_decide_eq_true (by kernel_rfl)) (by unfold Func.isWrapper; first | (rw [if_pos (by decide +kernel)]; kernel_rfl) | (rw [if_neg (by decide +kernel)]; exact ⟨rfl, rfl⟩))
    (fun os started H enc _ => lifted os started H enc)

theorem proved : Rows.TtlGrowsSaid := over
#print axioms proved
end Go.Proofs.Ytleldlcjhaaadaa.ttlGrows
