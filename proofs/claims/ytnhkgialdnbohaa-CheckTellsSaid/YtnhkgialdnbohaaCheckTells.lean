/- For every two strings and every conf the statement CheckTells returns true: check.ID, Value, Conf, Sectors, Quota and Bound tell what the document's own answers tell, and nothing that was there is changed. Conditions: none. -/
import Derived.Test.YtnhkgialdnbohaaCheckF
import Derived.Test.YtnhkgialdnbohaaClass
import Derived.Test.YtnhkgialdnbohaaFrame
import Derived.Test.YtnhkgialdnbohaaFloatArg
import Derived.Laws.Cover2
import Derived.Deep.QuietTactic
import Derived.BigQuiet
import Derived.StillTailTactics
import Derived.WalkSmall
import Derived.Deep.DeepCutAuto
import Derived.Deep.RegionWith
import Derived.Deep.LoopGhost
import Derived.ProofKit
import Derived.OpenShut
import Derived.ShutString
import Derived.SizedLaws
import Derived.Lib.SmallJoins
namespace Go.Proofs.Ytnhkgialdnbohaa.checkTells
open Go.ChangeShapes Go.WideShapes Go.ChangeAt Go.RowKit Go.Lib
open Go.ChangeMaps (open_string shut_string)
open Go.Joins Go.Deep
set_option linter.unusedVariables false

theorem own : ownKnob Try.prog.godebug = none := by kernel_rfl

open Flt

/-- What stays while the calls go: old memory, and the four cells of the boxed conf. -/
structure Inv (w : World) (sg sl : Int) (x : Nat) (rt : Int) (W : World) : Prop where
  b : Below w.heap.size w W
  l : LiesC W w.heap.size sg sl x rt
theorem Inv.drawn {w W : World} {sg sl rt : Int} {x : Nat} (h : Inv w sg sl x rt W) : Inv w sg sl x rt { W with drawn := W.drawn + 1 } :=
  ⟨⟨h.b.os, h.b.tape, h.b.output, h.b.size, h.b.block⟩, ⟨h.l.lt, h.l.c0, h.l.c1, h.l.c2, h.l.c3⟩⟩
theorem inv_ge {P : Program} {w W : World} {sg sl rt : Int} {x : Nat} {f : FuncId} {args : Array Value} {v : Value} (hi : Inv w sg sl x rt W) (h : Calls P f args W fun e w' => e = .returned v ∧ Below W.heap.size W w') :
    Calls P f args W fun e w' => e = .returned v ∧ Inv w sg sl x rt w' :=
  h.mono fun _ _ ⟨he, hb⟩ => ⟨he, ⟨hi.b.trans (hb.mono hi.b.size), hi.l.later hb⟩⟩
theorem inv_same {P : Program} {w W : World} {sg sl rt : Int} {x : Nat} {f : FuncId} {args : Array Value} {v : Value} (hi : Inv w sg sl x rt W) (h : Calls P f args W fun e w' => e = .returned v ∧ W = w') :
    Calls P f args W fun e w' => e = .returned v ∧ Inv w sg sl x rt w' :=
  h.mono fun _ _ ⟨he, hb⟩ => ⟨he, hb ▸ hi⟩
theorem rid_is (s : ByteArray) (b : Bool) (w : World) (hs : s.size ≤ maxLen) (h : idB s.data.toList = b) :
    Calls Try.prog 9 #[.string s] w fun e w' => e = .returned (.bool b) ∧ w = w' := by
  subst h; exact R4.id_any s w hs
theorem rvalue_is (s : ByteArray) (b : Bool) (w : World) (hs : s.size ≤ maxLen) (h : vaB s.size = b) :
    Calls Try.prog 11 #[.string s] w fun e w' => e = .returned (.bool b) ∧ w = w' := by
  subst h; exact R4.value_any s w hs
theorem rconf_is (sg sl rt : Int) (x : Nat) (c : Int) (w : World) (hx : x < 18446744073709551616) (h : ceC sg sl x rt = c) :
    Calls Try.prog 13 #[.agg #[.int .i64 sg, .int .i64 sl, .float .f64 x, .int .i64 rt]] w fun e w' => e = .returned (.int .i64 c) ∧ Below w.heap.size w w' := by
  subst h; exact R4.conf_any sg sl rt x w hx
theorem rsectors_is (sg sl rt : Int) (x : Nat) (c : Int) (w : World) (hx : x < 18446744073709551616) (h : scC sg sl x rt = c) :
    Calls Try.prog 15 #[.agg #[.int .i64 sg, .int .i64 sl, .float .f64 x, .int .i64 rt]] w fun e w' => e = .returned (.int .i64 c) ∧ Below w.heap.size w w' := by
  subst h; exact R4.sectors_any sg sl rt x w hx
theorem rquota_is (sg sl rt : Int) (x : Nat) (c : Int) (w : World) (hx : x < 18446744073709551616) (h : quC sg sl x rt = c) :
    Calls Try.prog 17 #[.agg #[.int .i64 sg, .int .i64 sl, .float .f64 x, .int .i64 rt]] w fun e w' => e = .returned (.int .i64 c) ∧ Below w.heap.size w w' := by
  subst h; exact R4.quota_any sg sl rt x w hx
theorem rbound_is (sg sl rt : Int) (x : Nat) (c : Int) (w : World) (hx : x < 18446744073709551616) (h : boC sg sl x rt = c) :
    Calls Try.prog 19 #[.agg #[.int .i64 sg, .int .i64 sl, .float .f64 x, .int .i64 rt]] w fun e w' => e = .returned (.int .i64 c) ∧ Below w.heap.size w w' := by
  subst h; exact R4.bound_any sg sl rt x w hx

set_option maxRecDepth 100000 in
set_option maxHeartbeats 8000000 in
theorem walk (a0 a1 : ByteArray) (sg sl : Int) (x : Nat) (rt : Int) (w0 : a0.size ≤ maxLen) (w1 : a1.size ≤ maxLen) (_ : (Lit.int .i64 sg).wf = true) (_ : (Lit.int .i64 sl).wf = true) (wx : (Lit.float .f64 x).wf = true) (_ : (Lit.int .i64 rt).wf = true) (z0 : a0.size ≤ 140737488351232) (z1 : a1.size ≤ 140737488351232) (w : World) :
    Calls Try.prog 3 #[.string a0, .string a1, .agg #[.int .i64 sg, .int .i64 sl, .float .f64 x, .int .i64 rt]] w fun e w' => e = .returned (.bool true) ∧ Below w.heap.size w w' := by
  have hx : x < 18446744073709551616 := by simpa [Lit.wf] using wx
  clear wx
  have hi0 : Inv w sg sl x rt (w.alloc (.cells #[.int .i64 sg, .int .i64 sl, .float .f64 x, .int .i64 rt] 24)) := ⟨(Below.refl _ _).alloc (Nat.le_refl _) _, lay1 sg sl rt x w⟩
  go_enter Try.func3, Try.ntmps3
  go_upto_region 1 with fail
  generalize w.alloc (.cells #[.int .i64 sg, .int .i64 sl, .float .f64 x, .int .i64 rt] 24) = W at *
  go_cut [0] (fun s0 wx => ∃ S : ByteArray, s0 = .string S ∧ S.size ≤ 100 ∧ W = wx)
  case first =>
    by_cases h : (a0.size : Int) ≤ 100
    · go_wp2_with fail
      go_meet
      exact ⟨a0, rfl, by omega, rfl⟩
    · go_wp2_with fail
      go_meet
      exact ⟨_, rfl, by rw [ByteArray.size_extract]; omega, rfl⟩
  case rest =>
  obtain ⟨S, rfl, hS, rfl⟩ := hcut
  go_upto_region 2 with fail
  go_cut [1] (fun s0 wx => ∃ S : ByteArray, s0 = .string S ∧ S.size ≤ 100 ∧ W = wx)
  case first =>
    by_cases h : (a1.size : Int) ≤ 100
    · go_wp2_with fail
      go_meet
      exact ⟨a1, rfl, by omega, rfl⟩
    · go_wp2_with fail
      go_meet
      exact ⟨_, rfl, by rw [ByteArray.size_extract]; omega, rfl⟩
  case rest =>
  obtain ⟨T, rfl, hT, rfl⟩ := hcut
  have mS : S.size ≤ maxLen := by unfold maxLen; omega
  have mT : T.size ≤ maxLen := by unfold maxLen; omega
  obtain ⟨b1, H1⟩ : ∃ b, Hid (idB S.data.toList = b) := ⟨_, rfl⟩
  obtain ⟨b2, H2⟩ : ∃ b, Hid (vaB T.size = b) := ⟨_, rfl⟩
  obtain ⟨c1, H3⟩ : ∃ c, Hid (ceC sg sl x rt = c) := ⟨_, rfl⟩
  obtain ⟨c2, H4⟩ : ∃ c, Hid (scC sg sl x rt = c) := ⟨_, rfl⟩
  obtain ⟨c3, H5⟩ : ∃ c, Hid (quC sg sl x rt = c) := ⟨_, rfl⟩
  obtain ⟨c4, H6⟩ : ∃ c, Hid (boC sg sl x rt = c) := ⟨_, rfl⟩
  clear w0 w1 z0 z1
  go_upto_region 3 with fail
  have hne : Nonempty (In (Inv w sg sl x rt)) := ⟨⟨_, hi0⟩⟩
  have F0 : ∀ i : In (Inv w sg sl x rt), i.W.cell? ⟨w.heap.size, 0, none⟩ = some (.int .i64 sg) := fun i => i.h.l.c0
  have F1 : ∀ i : In (Inv w sg sl x rt), i.W.cell? ⟨w.heap.size, 1, none⟩ = some (.int .i64 sl) := fun i => i.h.l.c1
  have F2 : ∀ i : In (Inv w sg sl x rt), i.W.cell? ⟨w.heap.size, 2, none⟩ = some (.float .f64 x) := fun i => i.h.l.c2
  have F3 : ∀ i : In (Inv w sg sl x rt), i.W.cell? ⟨w.heap.size, 3, none⟩ = some (.int .i64 rt) := fun i => i.h.l.c3
  refine region_class (Inv w sg sl x rt) (by kernel_rfl) (by kernel_rfl) hi0.drawn ?_
  repeat (go_big_quiet_step (first
    | (go_at_call 8; exact class_call _ (fun hi => inv_same hi (id_is S b1 _ mS H1.out)))
    | (go_at_call 9; exact class_call _ (fun hi => inv_same hi (rid_is S b1 _ mS H1.out)))
    | (go_at_call 10; exact class_call _ (fun hi => inv_same hi (value_is T b2 _ mT H2.out)))
    | (go_at_call 11; exact class_call _ (fun hi => inv_same hi (rvalue_is T b2 _ mT H2.out)))
    | (go_at_call 12; exact class_call _ (fun hi => inv_ge hi (conf_is sg sl rt x c1 _ hx H3.out)))
    | (go_at_call 13; exact class_call _ (fun hi => inv_ge hi (rconf_is sg sl rt x c1 _ hx H3.out)))
    | (go_at_call 14; exact class_call _ (fun hi => inv_ge hi (sectors_is sg sl rt x c2 _ hx H4.out)))
    | (go_at_call 15; exact class_call _ (fun hi => inv_ge hi (rsectors_is sg sl rt x c2 _ hx H4.out)))
    | (go_at_call 16; exact class_call _ (fun hi => inv_ge hi (quota_is sg sl rt x c3 _ hx H5.out)))
    | (go_at_call 17; exact class_call _ (fun hi => inv_ge hi (rquota_is sg sl rt x c3 _ hx H5.out)))
    | (go_at_call 18; exact class_call _ (fun hi => inv_ge hi (bound_is sg sl rt x c4 _ hx H6.out)))
    | (go_at_call 19; exact class_call _ (fun hi => inv_ge hi (rbound_is sg sl rt x c4 _ hx H6.out)))
    | (go_at_call 20; exact class_call _ (fun hi => inv_ge hi (fixed_any _)))))
  refine wpQuiet_nil ?_
  rintro _ ⟨i, rfl⟩
  go_wp2_with fail
  go_ret
  exact ⟨rfl, i.h.b⟩

theorem cellsT2 : Try.prog.cellsOf 24 = 4 := by kernel_rfl

theorem reads2 {H : Type} {enc : TypeId × Value → H} {W' : World} {b : Nat} {sp : Nat → Bool} {hd : Bool} {a2_0 : Int} {a2_1 : Int} {a2_2 : Nat} {a2_3 : Int} (w2_0 : (Lit.int .i64 a2_0).wf = true) (w2_1 : (Lit.int .i64 a2_1).wf = true) (w2_2 : (Lit.float .f64 a2_2).wf = true) (w2_3 : (Lit.int .i64 a2_3).wf = true) :
    DataW.Trod enc Try.prog W' b sp hd 24 (.agg #[.int .i64 a2_0, .int .i64 a2_1, .float .f64 a2_2, .int .i64 a2_3]) (.agg [.lit (.int .i64 a2_0), .lit (.int .i64 a2_1), .lit (.float .f64 a2_2), .lit (.int .i64 a2_3)]) [] := by
  simpa using shut_agg4 (enc := enc) (w := W') (base := b) (spare := sp) (held := hd) (y0 := (.lit (.int .i64 a2_0), [])) (y1 := (.lit (.int .i64 a2_1), [])) (y2 := (.lit (.float .f64 a2_2), [])) (y3 := (.lit (.int .i64 a2_3), [])) Try.underlying24 (by kernel_rfl) cellsT2 ⟨1, by simp [DataW.trod, Try.underlying3, w2_0]⟩ ⟨1, by simp [DataW.trod, Try.underlying3, w2_1]⟩ ⟨1, by simp [DataW.trod, Try.underlying22, w2_2]⟩ ⟨1, by simp [DataW.trod, Try.underlying3, w2_3]⟩

set_option maxRecDepth 100000 in
theorem lifted (os : Os) (started : os.Started) (H : Type) (enc : TypeId × Value → H) :
    ReturnsInHanded {} Try.checked os 3 .any (Rows.checkTellsSpec.pre6 enc Try.prog Try.f3 Rows.checkTellsRow.domain false) (Rows.checkTellsSpec.post enc Try.prog Try.f3 false true false false) := by
  refine returnsInHanded_of_change_sized (C := Try.checked) own started (by kernel_rfl) Try.func3
    (ChangeSpec.witness6 (enc := enc) (C := Try.checked) false ⟨#[], #[.string ByteArray.empty, .string ByteArray.empty, .agg #[.int .i64 0, .int .i64 0, .float .f64 0, .int .i64 0]], []⟩ 8 (by kernel_rfl) (by kernel_rfl) (by kernel_rfl) (by kernel_rfl)) ?_
  intro W base args ds gs before hval0 hW hcnd hsz0 _
  have hsz : (DataW.weightsEach Try.prog (Try.f3.params.toList ++ Rows.checkTellsSpec.plain.varTypes Try.prog) (ds ++ gs)).all (· ≤ reachBytes) = true := hsz0
  clear hsz0
  have hval : ∀ (j : Nat) t v, Try.f3.params[j]? = some t → args[j]? = some v → Value.okWide Try.prog W .any base t v := hval0
  have hW' := hW
  obtain ⟨p, q, hA0, hV, rfl, hfz, hnd⟩ := hW
  have hA : DataW.TrodAll enc Try.prog W 0 (fun _ => true) true Try.f3.params.toList args.toList ds p := hA0
  rw [Try.params3] at hA hval hsz
  obtain ⟨v0, vs0, d0, ds0, p0, q0, hargs, rfl, rfl, h0, r0⟩ := trodAll_cons hA
  obtain ⟨v1, vs1, d1, ds1, p1, q1, rfl, rfl, rfl, h1, r1⟩ := trodAll_cons r0
  obtain ⟨v2, vs2, d2, ds2, p2, q2, rfl, rfl, rfl, h2, r2⟩ := trodAll_cons r1
  obtain ⟨rfl, rfl, rfl⟩ := trodAll_nil r2
  obtain rfl : args = #[v0, v1, v2] := by cases args; simp_all
  obtain ⟨rfl, rfl⟩ := trodVars_none hV
  obtain ⟨a0, rfl, rfl, rfl, w0⟩ := open_string Try.underlying9 (hval 0 9 v0 rfl rfl) h0
  obtain ⟨a1, rfl, rfl, rfl, w1⟩ := open_string Try.underlying9 (hval 1 9 v1 rfl rfl) h1
  obtain ⟨c2_0, c2_1, c2_2, c2_3, y2_0, y2_1, y2_2, y2_3, m2, rfl, rfl, rfl, hy2_0, hy2_1, hy2_2, hy2_3⟩ := open_agg4 Try.underlying24 (by kernel_rfl) cellsT2 (hval 2 24 v2 rfl rfl) h2
  obtain ⟨a2_0, e2_0, rfl, w2_0⟩ := DataW.trod_int Try.underlying3 hy2_0
  obtain ⟨a2_1, e2_1, rfl, w2_1⟩ := DataW.trod_int Try.underlying3 hy2_1
  obtain ⟨a2_2, e2_2, rfl, w2_2⟩ := trod_float Try.underlying22 hy2_2
  obtain ⟨a2_3, e2_3, rfl, w2_3⟩ := DataW.trod_int Try.underlying3 hy2_3
  simp at e2_0 e2_1 e2_2 e2_3
  subst e2_0 e2_1 e2_2 e2_3
  have z0 : a0.size ≤ 140737488351232 := by
    have := sized_string hsz (j := 0) (t := 9) rfl rfl
    rw [Go.Lib.size_eq]; exact this
  have z1 : a1.size ≤ 140737488351232 := by
    have := sized_string hsz (j := 1) (t := 9) rfl rfl
    rw [Go.Lib.size_eq]; exact this
  clear hA0 hval0
  simp only [List.append_nil] at hW'
  refine (walk a0 a1 a2_0 a2_1 a2_2 a2_3 w0 w1 w2_0 w2_1 w2_2 w2_3 z0 z1 W).mono fun e W' ⟨he, hg⟩ => ?_
  subst he
  exact ⟨_, rfl, post_plain hW' (fun _ _ _ => (trodAll_cons_mk (shut_bool Try.underlying4 _) trodAll_mk0)) (fun sp => (trodAll_cons_mk (shut_string Try.underlying9 w0) (trodAll_cons_mk (shut_string Try.underlying9 w1) (trodAll_cons_mk (reads2 w2_0 w2_1 w2_2 w2_3) trodAll_mk0)))) (fun _ => rfl) hg (ok_one (by kernel_rfl) rfl (okWide_bool_mk Try.underlying4 _))⟩

theorem over : Rows.checkTellsRow.holds Try.pinned (OpenSpec.ofChange Rows.checkTellsSpec) :=
  OpenClaim.holds_of_wide 3 Try.f3 rfl rfl rfl rfl rfl rfl rfl ⟨rfl, rfl, rfl, rfl, rfl⟩ rfl rfl rfl rfl rfl (by kernel_rfl) Try.func3 (by kernel_rfl)
    (of_decide_eq_true (by kernel_rfl)) (by unfold Func.isWrapper; first | (rw [if_pos (by decide +kernel)]; kernel_rfl) | (rw [if_neg (by decide +kernel)]; exact ⟨rfl, rfl⟩))
    (fun os started H enc _ => lifted os started H enc)

theorem proved : Rows.CheckTellsSaid := over
#print axioms proved
end Go.Proofs.Ytnhkgialdnbohaa.checkTells
