/- For every two float64s, every two times and every number the statement TtlTells returns true: ttl.Kind, Ticks, Share, Least and Later tell what the document's own answers tell, and nothing that was there is changed. Conditions: none. -/
import Derived.Test.YtleldlcjhaaadaaTtlR
import Derived.Test.YtleldlcjhaaadaaClass
import Derived.Test.YtleldlcjhaaadaaFrame
import Derived.Laws.Cover2
import Derived.Deep.QuietTactic
import Derived.BigQuiet
import Derived.StillTailTactics
import Derived.WalkSmall
import Derived.Deep.DeepCutAuto
import Derived.Deep.RegionWith
import Derived.Deep.LoopGhost
import Derived.ProofKit
import Derived.OpenShut
import Derived.ShutString
import Derived.SizedLaws
import Derived.Lib.SmallJoins
namespace Go.Proofs.Ytleldlcjhaaadaa.ttlTells
open Go.ChangeShapes Go.WideShapes Go.ChangeAt Go.RowKit Go.Lib
open Go.ChangeMaps (open_string shut_string)
open Go.Joins Go.Deep
set_option linter.unusedVariables false

theorem own : ownKnob Try.prog.godebug = none := by kernel_rfl

open Flt
theorem share_both (x : Nat) (n : Int) (hx : x < 18446744073709551616) :
    ∃ (c g : Int), (∀ w, Calls Try.prog 12 #[.float .f64 x, .int .i64 n] w fun e w' => e = .returned (.tuple #[.int .i64 c, .int .i64 g]) ∧ w = w') ∧
      (∀ w, Calls Try.prog 13 #[.float .f64 x, .int .i64 n] w fun e w' => e = .returned (.tuple #[.int .i64 c, .int .i64 g]) ∧ w = w') := by
  by_cases h : ¬ inS x ∨ n < 0 ∨ 100000 < n
  · exact ⟨0, 1, fun w => share_no x n w hx h, fun w => R3.share_no x n w hx h⟩
  · have h1 : inS x := by
      by_cases g : inS x
      · exact g
      · exact absurd (.inl g) h
    have h2 : 0 ≤ n ∧ n ≤ 100000 := by omega
    obtain ⟨m, rfl⟩ := Int.eq_ofNat_of_zero_le h2.1
    exact ⟨_, 0, fun w => share_yes x m w h1 (by omega), fun w => R3.share_yes x m w h1 (by omega)⟩

/-- What stays while the calls go: old memory, and the three cells of the boxed argument. -/
structure Inv (w : World) (p q n : Int) (W : World) : Prop where
  b : Below w.heap.size w W
  c0 : W.cell? ⟨w.heap.size, 0, none⟩ = some (.int .u64 p)
  c1 : W.cell? ⟨w.heap.size, 1, none⟩ = some (.int .u64 q)
  c2 : W.cell? ⟨w.heap.size, 2, none⟩ = some (.int .i64 n)

theorem keeps {C : World → Prop} {f : FuncId} {args : Array Value} {v : Value} {W : World} (h : ∀ w, Calls Try.prog f args w fun e w' => e = .returned v ∧ w = w') (hi : C W) :
    Calls Try.prog f args W fun e W' => e = .returned v ∧ C W' :=
  (h W).mono fun _ _ ⟨he, hw⟩ => ⟨he, by subst hw; exact hi⟩

set_option maxHeartbeats 8000000 in
set_option maxRecDepth 100000 in
theorem core (x y : Nat) (p q n : Int) (hx : x < 18446744073709551616) (hy : y < 18446744073709551616) (wp : (Lit.int .u64 p).wf = true) (wq : (Lit.int .u64 q).wf = true) (w : World) :
    Calls Try.prog 3 #[.float .f64 x, .float .f64 y, .agg #[.int .u64 p, .int .u64 q, .int .i64 n]] w fun e w' => e = .returned (.bool true) ∧ Below w.heap.size w w' := by
  obtain ⟨bp0, bp1⟩ := bounds_u64 wp
  obtain ⟨bq0, bq1⟩ := bounds_u64 wq
  clear wp wq
  obtain ⟨c, g, cS, cS'⟩ := share_both x n hx
  have CS := Lib.hid cS
  have CS' := Lib.hid cS'
  have CT := Lib.hid (fun w => ticks_any x w hx)
  have CT' := Lib.hid (fun w => R3.ticks_any x w hx)
  have CK := Lib.hid (fun w => kind_any x w hx)
  have CK' := Lib.hid (fun w => R3.kind_any x w hx)
  have CL := Lib.hid (fun w => least_any x y w hx hy)
  have CL' := Lib.hid (fun w => R3.least_any x y w hx hy)
  have hls : ls x y < 18446744073709551616 := by unfold ls; split <;> omega
  have CE := Lib.hid (fun w => R3.same_self (ls x y) w hls)
  have CA := Lib.hid (fun w => later_any p q w bp0 bq0 (by omega) (by omega))
  have CA' := Lib.hid (fun w => R3.later_any p q w bp0 bq0 (by omega) (by omega))
  clear cS cS' hx hy hls bp0 bp1 bq0 bq1
  generalize tk x = t at *
  generalize te x = e0 at *
  generalize kd x = k at *
  generalize ls x y = l at *
  generalize lat p q = s at *
  have hi0 : Inv w p q n (w.alloc (.cells #[.int .u64 p, .int .u64 q, .int .i64 n] 25)) := ⟨(Below.refl _ _).alloc (Nat.le_refl _) _, by simp [go_sem], by simp [go_sem], by simp [go_sem]⟩
  go_enter Try.func3, Try.ntmps3
  go_upto_region 1 with fail
  generalize w.alloc (.cells #[.int .u64 p, .int .u64 q, .int .i64 n] 25) = W at *
  have L2 := hi0.c2
  go_wp2_with fail
  refine (CT.out _).mono ?_
  rintro e w' ⟨rfl, rfl⟩
  go_wp2_with fail
  refine (CT'.out _).mono ?_
  rintro e w' ⟨rfl, rfl⟩
  go_wp2_with fail
  refine (CS.out _).mono ?_
  rintro e w' ⟨rfl, rfl⟩
  go_wp2_with fail
  refine (CS'.out _).mono ?_
  rintro e w' ⟨rfl, rfl⟩
  go_upto_region 5 with fail
  have hne : Nonempty (In (Inv w p q n)) := ⟨⟨_, hi0⟩⟩
  have F0 : ∀ i : In (Inv w p q n), i.W.cell? ⟨w.heap.size, 0, none⟩ = some (.int .u64 p) := fun i => i.h.c0
  have F1 : ∀ i : In (Inv w p q n), i.W.cell? ⟨w.heap.size, 1, none⟩ = some (.int .u64 q) := fun i => i.h.c1
  refine region_class (Inv w p q n) (by kernel_rfl) (by kernel_rfl) ⟨⟨hi0.b.os, hi0.b.tape, hi0.b.output, hi0.b.size, hi0.b.block⟩, hi0.c0, hi0.c1, hi0.c2⟩ ?_
  repeat (go_big_quiet_step (first
    | (go_at_call 14; exact class_call _ (fun hi => keeps CK.out hi))
    | (go_at_call 15; exact class_call _ (fun hi => keeps CK'.out hi))
    | (go_at_call 17; exact class_call _ (fun hi => keeps CL.out hi))
    | (go_at_call 18; exact class_call _ (fun hi => keeps CL'.out hi))
    | (go_at_call 16; exact class_call _ (fun hi => keeps CE.out hi))
    | (go_at_call 19; exact class_call _ (fun hi => keeps CA.out hi))
    | (go_at_call 20; exact class_call _ (fun hi => keeps CA'.out hi))
    | (go_at_call 21; exact class_call _ (fun hi => keeps fixed_any hi))))
  refine wpQuiet_nil ?_
  rintro _ ⟨i, rfl⟩
  go_wp2_with fail
  go_ret
  exact ⟨rfl, i.h.b⟩

set_option maxHeartbeats 1000000 in
theorem walk (a0 a1 : Nat) (a2_0 a2_1 a2_2 : Int) (w0 : (Lit.float .f64 a0).wf = true) (w1 : (Lit.float .f64 a1).wf = true) (w2_0 : (Lit.int .u64 a2_0).wf = true) (w2_1 : (Lit.int .u64 a2_1).wf = true) (w2_2 : (Lit.int .i64 a2_2).wf = true) (w : World) :
    Calls Try.prog 3 #[.float .f64 a0, .float .f64 a1, .agg #[.int .u64 a2_0, .int .u64 a2_1, .int .i64 a2_2]] w fun e w' => e = .returned (.bool true) ∧ Below w.heap.size w w' := by
  exact core a0 a1 a2_0 a2_1 a2_2 (by simpa [Lit.wf] using w0) (by simpa [Lit.wf] using w1) w2_0 w2_1 w

theorem cellsT2 : Try.prog.cellsOf 25 = 3 := by kernel_rfl

theorem reads2 {H : Type} {enc : TypeId × Value → H} {W' : World} {b : Nat} {sp : Nat → Bool} {hd : Bool} {a2_0 a2_1 a2_2 : Int} (w2_0 : (Lit.int .u64 a2_0).wf = true) (w2_1 : (Lit.int .u64 a2_1).wf = true) (w2_2 : (Lit.int .i64 a2_2).wf = true) :
    DataW.Trod enc Try.prog W' b sp hd 25 (.agg #[.int .u64 a2_0, .int .u64 a2_1, .int .i64 a2_2]) (.agg [.lit (.int .u64 a2_0), .lit (.int .u64 a2_1), .lit (.int .i64 a2_2)]) [] := by
  simpa using shut_agg3 (enc := enc) (w := W') (base := b) (spare := sp) (held := hd) (y0 := (.lit (.int .u64 a2_0), [])) (y1 := (.lit (.int .u64 a2_1), [])) (y2 := (.lit (.int .i64 a2_2), [])) Try.underlying25 (by kernel_rfl) cellsT2 ⟨1, by simp [DataW.trod, Try.underlying23, w2_0]⟩ ⟨1, by simp [DataW.trod, Try.underlying23, w2_1]⟩ ⟨1, by simp [DataW.trod, Try.underlying3, w2_2]⟩

set_option maxRecDepth 100000 in
theorem lifted (os : Os) (started : os.Started) (H : Type) (enc : TypeId × Value → H) :
    ReturnsInHanded {} Try.checked os 3 .any (Rows.ttlTellsSpec.pre6 enc Try.prog Try.f3 Rows.ttlTellsRow.domain false) (Rows.ttlTellsSpec.post enc Try.prog Try.f3 false true false false) := by
  refine returnsInHanded_of_change (C := Try.checked) own started (by kernel_rfl) Try.func3
    (ChangeSpec.witness6 (enc := enc) (C := Try.checked) false ⟨#[], #[.float .f64 0, .float .f64 0, .agg #[.int .u64 0, .int .u64 0, .int .i64 0]], []⟩ 8 (by kernel_rfl) (by kernel_rfl) (by kernel_rfl) (by kernel_rfl)) ?_
  intro W base args ds gs before hval0 hW hcnd _
  have hval : ∀ (j : Nat) t v, Try.f3.params[j]? = some t → args[j]? = some v → Value.okWide Try.prog W .any base t v := hval0
  have hW' := hW
  obtain ⟨p, q, hA0, hV, rfl, hfz, hnd⟩ := hW
  have hA : DataW.TrodAll enc Try.prog W 0 (fun _ => true) true Try.f3.params.toList args.toList ds p := hA0
  rw [Try.params3] at hA hval
  obtain ⟨v0, vs0, d0, ds0, p0, q0, hargs, rfl, rfl, h0, r0⟩ := trodAll_cons hA
  obtain ⟨v1, vs1, d1, ds1, p1, q1, rfl, rfl, rfl, h1, r1⟩ := trodAll_cons r0
  obtain ⟨v2, vs2, d2, ds2, p2, q2, rfl, rfl, rfl, h2, r2⟩ := trodAll_cons r1
  obtain ⟨rfl, rfl, rfl⟩ := trodAll_nil r2
  obtain rfl : args = #[v0, v1, v2] := by cases args; simp_all
  obtain ⟨rfl, rfl⟩ := trodVars_none hV
  obtain ⟨a0, rfl, rfl, rfl, w0⟩ := open_float Try.underlying22 (hval 0 22 v0 rfl rfl) h0
  obtain ⟨a1, rfl, rfl, rfl, w1⟩ := open_float Try.underlying22 (hval 1 22 v1 rfl rfl) h1
  obtain ⟨c2_0, c2_1, c2_2, y2_0, y2_1, y2_2, m2, rfl, rfl, rfl, hy2_0, hy2_1, hy2_2⟩ := open_agg3 Try.underlying25 (by kernel_rfl) cellsT2 (hval 2 25 v2 rfl rfl) h2
  obtain ⟨a2_0, e2_0, rfl, w2_0⟩ := DataW.trod_int Try.underlying23 hy2_0
  obtain ⟨a2_1, e2_1, rfl, w2_1⟩ := DataW.trod_int Try.underlying23 hy2_1
  obtain ⟨a2_2, e2_2, rfl, w2_2⟩ := DataW.trod_int Try.underlying3 hy2_2
  simp at e2_0 e2_1 e2_2
  subst e2_0 e2_1 e2_2
  clear hA0 hval0
  simp only [List.append_nil] at hW'
  refine (walk a0 a1 a2_0 a2_1 a2_2 w0 w1 w2_0 w2_1 w2_2 W).mono fun e W' ⟨he, hg⟩ => ?_
  subst he
  exact ⟨_, rfl, post_plain hW' (fun _ _ _ => (trodAll_cons_mk (shut_bool Try.underlying4 _) trodAll_mk0)) (fun sp => (trodAll_cons_mk (shut_float Try.underlying22 w0) (trodAll_cons_mk (shut_float Try.underlying22 w1) (trodAll_cons_mk (reads2 w2_0 w2_1 w2_2) trodAll_mk0)))) (fun _ => rfl) hg (ok_one (by kernel_rfl) rfl (okWide_bool_mk Try.underlying4 _))⟩

theorem over : Rows.ttlTellsRow.holds Try.pinned (OpenSpec.ofChange Rows.ttlTellsSpec) :=
  OpenClaim.holds_of_wide 3 Try.f3 rfl rfl rfl rfl rfl rfl rfl ⟨rfl, rfl, rfl, rfl, rfl⟩ rfl rfl rfl rfl rfl (by kernel_rfl) Try.func3 (by kernel_rfl)
    (of_decide_eq_true (by kernel_rfl)) (by unfold Func.isWrapper; first | (rw [if_pos (by decide +kernel)]; kernel_rfl) | (rw [if_neg (by decide +kernel)]; exact ⟨rfl, rfl⟩))
    (fun os started H enc _ => lifted os started H enc)

theorem proved : Rows.TtlTellsSaid := over
#print axioms proved
end Go.Proofs.Ytleldlcjhaaadaa.ttlTells
