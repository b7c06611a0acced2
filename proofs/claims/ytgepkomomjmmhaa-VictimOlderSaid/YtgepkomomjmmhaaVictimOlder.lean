/- For all inputs the statement VictimOlder about victim returns true, and changes nothing. Conditions: none. -/
import Derived.Test.YtgepkomomjmmhaaViK
import Derived.Test.YtgepkomomjmmhaaViF
import Derived.Test.YtgepkomomjmmhaaClass
import Derived.ProofKit
import Derived.OpenShut
import Derived.ShutString
import Derived.SizedLaws
namespace Go.Proofs.Ytgepkomomjmmhaa.victimOlder
open Go.ChangeShapes Go.WideShapes Go.ChangeAt Go.RowKit Go.Lib Go.MapKept
open Go.ChangeMaps (open_string shut_string)
set_option linter.unusedVariables false
set_option linter.unusedSimpArgs false

theorem own : ownKnob Try.prog.godebug = none := by kernel_rfl
theorem laid : laidOutB Try.prog = true := by kernel_rfl

set_option maxRecDepth 100000
open Vi Sp
set_option maxHeartbeats 16000000 in
theorem walk (P : Prg) (a : Cd) (age live : Int) (w : World) (ha : CIn a) (h1 : 0 ≤ age ∧ age < 18446744073709551616) (h2 : I64 live) :
    Calls Try.prog 5 #[.agg (cdA5 a), .int .u64 age, .int .i64 live] w fun e w' => e = .returned (.bool true) ∧ Below w.heap.size w w' := by
  have hb : CIn ⟨a.s, a.l, a.v, a.n, max a.a age⟩ := ⟨ha.s, ha.l, ha.v, ha.n, by have := ha.a; unfold COk at *; simp only; omega⟩
  have hc : CIn ⟨a.s, a.l, min a.v live, a.n, a.a⟩ := ⟨ha.s, ha.l, by have := ha.v; unfold I64 at h2; simp only; omega, ha.n, ha.a⟩
  have e1 : better a ⟨a.s, a.l, a.v, a.n, max a.a age⟩ = false := better_older rfl rfl (by simp only; omega) ha.a
  have e2 : better a ⟨a.s, a.l, min a.v live, a.n, a.a⟩ = false := better_less rfl rfl (by simp only; omega) ha.a
  have B1 : Hid (∀ X, Calls Try.prog 10 #[.agg #[.int .i64 a.s, .int .i64 a.l, .int .i64 a.v, .int .i64 a.n, .int .u64 a.a], .agg #[.int .i64 a.s, .int .i64 a.l, .int .i64 a.v, .int .i64 a.n, .int .u64 (max a.a age)]] X fun e w' => e = .returned (.bool false) ∧ Below X.heap.size X w') := Lib.hid (fun X => by rw [← e1]; exact P.bt _ _ X ha hb)
  have B2 : Hid (∀ X, Calls Try.prog 10 #[.agg #[.int .i64 a.s, .int .i64 a.l, .int .i64 a.v, .int .i64 a.n, .int .u64 a.a], .agg #[.int .i64 a.s, .int .i64 a.l, .int .i64 (min a.v live), .int .i64 a.n, .int .u64 a.a]] X fun e w' => e = .returned (.bool false) ∧ Below X.heap.size X w') := Lib.hid (fun X => by rw [← e2]; exact P.bt _ _ X ha hc)
  have HFX := Lib.hid (fun X => fixed_any P X)
  clear hb hc e1 e2 ha h1 h2 P
  go_enter Try.func5, Try.ntmps5
  go_upto_region 1 with fail
  go_region
  all_goals (
    go_upto_region 4 with fail
    first
    | (
      obtain ⟨W0, hW0⟩ : ∃ W0, (((w.alloc (.cells (cdA5 a) 25)).alloc (.cells #[.int .i64 a.s, .int .i64 a.l, .int .i64 a.v, .int .i64 a.n, .int .u64 (max a.a age)] 25)).alloc (.cells #[.int .i64 a.s, .int .i64 a.l, .int .i64 (min a.v live), .int .i64 a.n, .int .u64 a.a] 25)).drew = W0 := ⟨_, rfl⟩
      rw [hW0]
      have HX : Hid (Below w.heap.size w W0) := Lib.hid (by rw [← hW0]; exact ((((Below.refl _ _).alloc (Nat.le_refl _) _).alloc (by simp) _).alloc (by simp; omega) _).drew)
      have BA : Hid (Sp.Blk W0 w.heap.size 25 #[.int .i64 a.s, .int .i64 a.l, .int .i64 a.v, .int .i64 a.n, .int .u64 a.a]) := Lib.hid (by rw [← hW0]; exact (((Sp.Blk.new w 25 #[.int .i64 a.s, .int .i64 a.l, .int .i64 a.v, .int .i64 a.n, .int .u64 a.a]).later (below1 _ _)).later (below1 _ _)).later (Below.refl _ _).drew)
      have BB : Hid (Sp.Blk W0 (w.heap.size + 1) 25 #[.int .i64 a.s, .int .i64 a.l, .int .i64 a.v, .int .i64 a.n, .int .u64 (max a.a age)]) := Lib.hid (by rw [← hW0]; exact ((Sp.Blk.at_ _ _ _ (by simp)).later (below1 _ _)).later (Below.refl _ _).drew)
      have BC : Hid (Sp.Blk W0 (w.heap.size + 1 + 1) 25 #[.int .i64 a.s, .int .i64 a.l, .int .i64 (min a.v live), .int .i64 a.n, .int .u64 a.a]) := Lib.hid (by rw [← hW0]; exact (Sp.Blk.at_ _ _ _ (by simp)).later (Below.refl _ _).drew)
      clear hW0
      have a0 := BA.out.cell 0
      have b0 := BB.out.cell 0
      have a1 := BA.out.cell 1
      have b1 := BB.out.cell 1
      have a2 := BA.out.cell 2
      have b2 := BB.out.cell 2
      have a3 := BA.out.cell 3
      have b3 := BB.out.cell 3
      have a4 := BA.out.cell 4
      have b4 := BB.out.cell 4
      simp at a0 a1 a2 a3 a4 b0 b1 b2 b3 b4
      go_wp2_with (first
        | (go_at_call 10; with_reducible refine (B1.out _).mono ?_; rintro e5 w5 ⟨rfl, hb5⟩; have H5 := Lib.hid hb5; clear hb5 a0 a1 a2 a3 a4 b0 b1 b2 b3 b4;
           have a0 := (BA.out.later H5.out).cell 0; have a1 := (BA.out.later H5.out).cell 1; have a2 := (BA.out.later H5.out).cell 2; have a3 := (BA.out.later H5.out).cell 3; have a4 := (BA.out.later H5.out).cell 4;
           have c0 := (BC.out.later H5.out).cell 0; have c1 := (BC.out.later H5.out).cell 1; have c2 := (BC.out.later H5.out).cell 2; have c3 := (BC.out.later H5.out).cell 3; have c4 := (BC.out.later H5.out).cell 4;
           simp at a0 a1 a2 a3 a4 c0 c1 c2 c3 c4)
        | (go_at_call 10; with_reducible refine (B2.out _).mono ?_; rintro e6 w6 ⟨rfl, hb6⟩; have H6 := Lib.hid (H5.out.trans (hb6.mono H5.out.size)); clear hb6)
        | (go_at_call 19; refine (HFX.out _).mono ?_; rintro e7 w7 ⟨rfl, hb7⟩; have H7 := Lib.hid (H6.out.trans (hb7.mono H6.out.size)); clear hb7))
      go_ret
      exact ⟨rfl, HX.out.trans (H7.out.mono HX.out.size)⟩)
    | (
      obtain ⟨W0, hW0⟩ : ∃ W0, (((w.alloc (.cells (cdA5 a) 25)).alloc (.cells #[.int .i64 a.s, .int .i64 a.l, .int .i64 (min a.v live), .int .i64 a.n, .int .u64 a.a] 25)).alloc (.cells #[.int .i64 a.s, .int .i64 a.l, .int .i64 a.v, .int .i64 a.n, .int .u64 (max a.a age)] 25)).drew = W0 := ⟨_, rfl⟩
      rw [hW0]
      have HX : Hid (Below w.heap.size w W0) := Lib.hid (by rw [← hW0]; exact ((((Below.refl _ _).alloc (Nat.le_refl _) _).alloc (by simp) _).alloc (by simp; omega) _).drew)
      have BA : Hid (Sp.Blk W0 w.heap.size 25 #[.int .i64 a.s, .int .i64 a.l, .int .i64 a.v, .int .i64 a.n, .int .u64 a.a]) := Lib.hid (by rw [← hW0]; exact (((Sp.Blk.new w 25 #[.int .i64 a.s, .int .i64 a.l, .int .i64 a.v, .int .i64 a.n, .int .u64 a.a]).later (below1 _ _)).later (below1 _ _)).later (Below.refl _ _).drew)
      have BB : Hid (Sp.Blk W0 (w.heap.size + 1 + 1) 25 #[.int .i64 a.s, .int .i64 a.l, .int .i64 a.v, .int .i64 a.n, .int .u64 (max a.a age)]) := Lib.hid (by rw [← hW0]; exact (Sp.Blk.at_ _ _ _ (by simp)).later (Below.refl _ _).drew)
      have BC : Hid (Sp.Blk W0 (w.heap.size + 1) 25 #[.int .i64 a.s, .int .i64 a.l, .int .i64 (min a.v live), .int .i64 a.n, .int .u64 a.a]) := Lib.hid (by rw [← hW0]; exact ((Sp.Blk.at_ _ _ _ (by simp)).later (below1 _ _)).later (Below.refl _ _).drew)
      clear hW0
      have a0 := BA.out.cell 0
      have b0 := BB.out.cell 0
      have a1 := BA.out.cell 1
      have b1 := BB.out.cell 1
      have a2 := BA.out.cell 2
      have b2 := BB.out.cell 2
      have a3 := BA.out.cell 3
      have b3 := BB.out.cell 3
      have a4 := BA.out.cell 4
      have b4 := BB.out.cell 4
      simp at a0 a1 a2 a3 a4 b0 b1 b2 b3 b4
      go_wp2_with (first
        | (go_at_call 10; with_reducible refine (B1.out _).mono ?_; rintro e5 w5 ⟨rfl, hb5⟩; have H5 := Lib.hid hb5; clear hb5 a0 a1 a2 a3 a4 b0 b1 b2 b3 b4;
           have a0 := (BA.out.later H5.out).cell 0; have a1 := (BA.out.later H5.out).cell 1; have a2 := (BA.out.later H5.out).cell 2; have a3 := (BA.out.later H5.out).cell 3; have a4 := (BA.out.later H5.out).cell 4;
           have c0 := (BC.out.later H5.out).cell 0; have c1 := (BC.out.later H5.out).cell 1; have c2 := (BC.out.later H5.out).cell 2; have c3 := (BC.out.later H5.out).cell 3; have c4 := (BC.out.later H5.out).cell 4;
           simp at a0 a1 a2 a3 a4 c0 c1 c2 c3 c4)
        | (go_at_call 10; with_reducible refine (B2.out _).mono ?_; rintro e6 w6 ⟨rfl, hb6⟩; have H6 := Lib.hid (H5.out.trans (hb6.mono H5.out.size)); clear hb6)
        | (go_at_call 19; refine (HFX.out _).mono ?_; rintro e7 w7 ⟨rfl, hb7⟩; have H7 := Lib.hid (H6.out.trans (hb7.mono H6.out.size)); clear hb7))
      go_ret
      exact ⟨rfl, HX.out.trans (H7.out.mono HX.out.size)⟩))

set_option maxRecDepth 100000 in
theorem lifted (P : Prg) (os : Os) (started : os.Started) (H : Type) (enc : TypeId × Value → H) :
    ReturnsInHanded {} Try.checked os 5 .any (Rows.victimOlderSpec.pre6 enc Try.prog Try.f5 Rows.victimOlderRow.domain false) (Rows.victimOlderSpec.post enc Try.prog Try.f5 false true false false) := by
  refine returnsInHanded_of_change (C := Try.checked) own started (by kernel_rfl) Try.func5
    (ChangeSpec.witness6 (enc := enc) (C := Try.checked) false ⟨#[], #[.agg #[.int .i64 0, .int .i64 0, .int .i64 0, .int .i64 0, .int .u64 0], .int .u64 0, .int .i64 0], []⟩ 8 (by kernel_rfl) (by kernel_rfl) (by kernel_rfl) (by kernel_rfl)) ?_
  intro W base args ds gs before hval0 hW hcnd _
  have hval : ∀ (j : Nat) t v, Try.f5.params[j]? = some t → args[j]? = some v → Value.okWide Try.prog W .any base t v := hval0
  have hW' := hW
  obtain ⟨p, q, hA0, hV, rfl, hfz, hnd⟩ := hW
  have hA : DataW.TrodAll enc Try.prog W 0 (fun _ => true) true Try.f5.params.toList args.toList ds p := hA0
  rw [Try.params5] at hA hval
  obtain ⟨v0, vs0, d0, ds0, p0, q0, hargs, rfl, rfl, h0, r0⟩ := trodAll_cons hA
  obtain ⟨v1, vs1, d1, ds1, p1, q1, rfl, rfl, rfl, h1, r1⟩ := trodAll_cons r0
  obtain ⟨v2, vs2, d2, ds2, p2, q2, rfl, rfl, rfl, h2, r2⟩ := trodAll_cons r1
  obtain ⟨rfl, rfl, rfl⟩ := trodAll_nil r2
  obtain rfl : args = #[v0, v1, v2] := by cases args; simp_all
  obtain ⟨rfl, rfl⟩ := trodVars_none hV
  obtain ⟨x0, rfl, hx0⟩ := open_cand (hval 0 25 v0 rfl rfl) h0
  obtain ⟨a1, rfl, rfl, rfl, w1⟩ := open_int Try.underlying23 (hval 1 23 v1 rfl rfl) h1
  obtain ⟨a2, rfl, rfl, rfl, w2⟩ := open_int Try.underlying3 (hval 2 3 v2 rfl rfl) h2
  clear hA0 hval0
  try simp only [List.append_nil] at hW'
  try simp only [List.nil_append] at hW'
  have hlt := fun x hx => hW'.lt x hx
  refine (walk P x0 a1 a2 W hx0 (u64_of w1) (i64_of w2)).mono fun e W' ⟨he, hg⟩ => ?_
  subst he
  refine ⟨_, rfl, post_mem hW' (fun _ _ _ => (trodAll_cons_mk (shut_bool Try.underlying4 _) trodAll_mk0)) (fun sp hsp => ?_) (fun _ => rfl) hg (ok_one (by kernel_rfl) rfl (okWide_bool_mk Try.underlying4 _))⟩
  have hall := (trodAll_cons_mk (arg_same (sp := sp) laid (by kernel_rfl) (of_decide_eq_true (by kernel_rfl)) h0 hg (by intro x hx; simp_all) hlt hsp) (trodAll_cons_mk (arg_same (sp := sp) laid (by kernel_rfl) (of_decide_eq_true (by kernel_rfl)) h1 hg (by intro x hx; simp_all) hlt hsp) (trodAll_cons_mk (arg_same (sp := sp) laid (by kernel_rfl) (of_decide_eq_true (by kernel_rfl)) h2 hg (by intro x hx; simp_all) hlt hsp) trodAll_mk0)))
  try simp only [List.append_nil] at hall
  try simp only [List.nil_append] at hall
  exact hall

theorem over (P : Prg) : Rows.victimOlderRow.holds Try.pinned (OpenSpec.ofChange Rows.victimOlderSpec) :=
  OpenClaim.holds_of_wide 5 Try.f5 rfl rfl rfl rfl rfl rfl rfl ⟨rfl, rfl, rfl, rfl, rfl⟩ rfl rfl rfl rfl rfl (by kernel_rfl) Try.func5 (by kernel_rfl)
    (of_decide_eq_true (by kernel_rfl)) (by unfold Func.isWrapper; first | (rw [if_pos (by decide +kernel)]; kernel_rfl) | (rw [if_neg (by decide +kernel)]; exact ⟨rfl, rfl⟩))
    (fun os started H enc _ => lifted P os started H enc)

end Go.Proofs.Ytgepkomomjmmhaa.victimOlder
