/- For every list of records, and numbers, the statement ReplayTells about replay returns true, and changes nothing. Conditions: none. -/
import Derived.Test.YtckakkocblkcoaaReQ
import Derived.ProofKit
import Derived.OpenShut
import Derived.ShutString
import Derived.SizedLaws
namespace Go.Proofs.Ytckakkocblkcoaa.replayTells
open Go.ChangeShapes Go.WideShapes Go.ChangeAt Go.RowKit Go.Lib Go.MapKept
open Go.ChangeMaps (open_string shut_string)
set_option linter.unusedVariables false

theorem own : ownKnob Try.prog.godebug = none := by kernel_rfl
theorem laid : laidOutB Try.prog = true := by kernel_rfl

set_option maxRecDepth 100000
open Re Sp
set_option maxHeartbeats 16000000 in
theorem walk (P : Prg) (A : Option Addr) (n p : Nat) (L : List Rec) (now ver : Int) (w : World) (hL : RR w A n L) (hn : n ≤ maxLen) (hf : Fine L) (h1 : 0 ≤ now ∧ now < 18446744073709551616) (h2 : 0 ≤ ver ∧ ver < 18446744073709551616) :
    Calls Try.prog 3 #[.slice A n p, .int .u64 now, .int .u64 ver] w fun e w' => e = .returned (.bool true) ∧ Below w.heap.size w w' := by
  have HC : Hid (Calls Try.prog 9 #[.slice A n p, .int .i64 40] w fun e w' => ∃ g' p', e = .returned (.slice (some ⟨g', 0, none⟩) (min 40 n) p') ∧ RR w' (some ⟨g', 0, none⟩) (min 40 n) (cutL L 40) ∧ Below w.heap.size w w') := Lib.hid (cut_any p hL hn 40 (by decide) hf)
  have HF := Lib.hid (cut_fine hf 40)
  have HN := Lib.hid (show min 40 n ≤ 40 by omega)
  have HW := Lib.hid (And.intro h1 h2)
  clear hL hn hf h1 h2
  generalize cutL L 40 = C at *
  generalize min 40 n = nc at *
  go_enter Try.func3, Try.ntmps3
  go_wp2_with fail
  refine HC.out.mono ?_
  rintro e' w1 ⟨gc, pc, rfl, hr, hb⟩
  have hC := Lib.hid hr
  have BB := Lib.hid hb
  clear HC hr hb
  have HK := Lib.hid (P.nw pc hC.out (by have := HN.out; omega) HF.out)
  go_wp2_with fail
  refine HK.out.mono ?_
  rintro e' wk1 ⟨A1, p1, rfl, hr, hb⟩
  replace hC := Lib.hid (hC.out.later hb)
  replace BB := Lib.hid (BB.out.trans (hb.mono BB.out.size))
  have h1 := Lib.hid hr
  clear HK hb hr
  have HK := Lib.hid (refs_any (p := p1) h1.out (by rw [h1.out.len]; have := newest_len C; have := hC.out.len; have := HN.out; omega))
  go_wp2_with fail
  refine HK.out.mono ?_
  rintro e' wk2 ⟨A2, p2, rfl, hr, hb⟩
  replace hC := Lib.hid (hC.out.later hb)
  replace h1 := Lib.hid (h1.out.later hb)
  replace BB := Lib.hid (BB.out.trans (hb.mono BB.out.size))
  have h2 := Lib.hid hr
  clear HK hb hr
  clear h1
  have HK := Lib.hid (refs_any (p := pc) hC.out (by have := HN.out; omega))
  go_wp2_with fail
  refine HK.out.mono ?_
  rintro e' wk3 ⟨A3, p3, rfl, hr, hb⟩
  replace hC := Lib.hid (hC.out.later hb)
  replace h2 := Lib.hid (h2.out.later hb)
  replace BB := Lib.hid (BB.out.trans (hb.mono BB.out.size))
  have h3 := Lib.hid hr
  clear HK hb hr
  have HK := Lib.hid (rnewest_any (p := p3) h3.out (by have := HN.out; omega))
  go_wp2_with fail
  refine HK.out.mono ?_
  rintro e' wk4 ⟨A4, p4, rfl, hr, hb⟩
  replace hC := Lib.hid (hC.out.later hb)
  replace h2 := Lib.hid (h2.out.later hb)
  replace h3 := Lib.hid (h3.out.later hb)
  replace BB := Lib.hid (BB.out.trans (hb.mono BB.out.size))
  have h4 := Lib.hid hr
  clear HK hb hr
  clear h3
  have HK := Lib.hid (records_yes (p := p2) (q := p4) h2.out h4.out (by rw [h2.out.len]; have := newest_len C; have := hC.out.len; have := HN.out; omega))
  go_wp2_with fail
  refine HK.out.mono ?_
  rintro e' wk5 ⟨rfl, hb⟩
  replace hC := Lib.hid (hC.out.later hb)
  replace h2 := Lib.hid (h2.out.later hb)
  replace h4 := Lib.hid (h4.out.later hb)
  replace BB := Lib.hid (BB.out.trans (hb.mono BB.out.size))
  clear HK hb
  clear h2 h4
  have HK := Lib.hid (P.ss pc now hC.out (by have := HN.out; omega) HF.out HW.out.1)
  go_wp2_with fail
  refine HK.out.mono ?_
  rintro e' wk6 ⟨A1, p1, rfl, hr, hb⟩
  replace hC := Lib.hid (hC.out.later hb)
  replace BB := Lib.hid (BB.out.trans (hb.mono BB.out.size))
  have h1 := Lib.hid hr
  clear HK hb hr
  have HK := Lib.hid (lives_any (p := p1) h1.out (by rw [h1.out.len]; have := sesL_len (newest C) now; have := newest_len C; have := hC.out.len; have := HN.out; omega))
  go_wp2_with fail
  refine HK.out.mono ?_
  rintro e' wk7 ⟨A2, p2, rfl, hr, hb⟩
  replace hC := Lib.hid (hC.out.later hb)
  replace h1 := Lib.hid (h1.out.later hb)
  replace BB := Lib.hid (BB.out.trans (hb.mono BB.out.size))
  have h2 := Lib.hid hr
  clear HK hb hr
  clear h1
  have HK := Lib.hid (refs_any (p := pc) hC.out (by have := HN.out; omega))
  go_wp2_with fail
  refine HK.out.mono ?_
  rintro e' wk8 ⟨A3, p3, rfl, hr, hb⟩
  replace hC := Lib.hid (hC.out.later hb)
  replace h2 := Lib.hid (h2.out.later hb)
  replace BB := Lib.hid (BB.out.trans (hb.mono BB.out.size))
  have h3 := Lib.hid hr
  clear HK hb hr
  have HK := Lib.hid (rsessions_any (p := p3) now h3.out (by have := HN.out; omega))
  go_wp2_with fail
  refine HK.out.mono ?_
  rintro e' wk9 ⟨A4, p4, rfl, hr, hb⟩
  replace hC := Lib.hid (hC.out.later hb)
  replace h2 := Lib.hid (h2.out.later hb)
  replace h3 := Lib.hid (h3.out.later hb)
  replace BB := Lib.hid (BB.out.trans (hb.mono BB.out.size))
  have h4 := Lib.hid hr
  clear HK hb hr
  clear h3
  have HK := Lib.hid (same_yes (p := p2) (q := p4) h2.out h4.out (by rw [h2.out.len]; have := sesL_len (newest C) now; have := newest_len C; have := hC.out.len; have := HN.out; omega))
  go_wp2_with fail
  refine HK.out.mono ?_
  rintro e' wk10 ⟨rfl, hb⟩
  replace hC := Lib.hid (hC.out.later hb)
  replace h2 := Lib.hid (h2.out.later hb)
  replace h4 := Lib.hid (h4.out.later hb)
  replace BB := Lib.hid (BB.out.trans (hb.mono BB.out.size))
  clear HK hb
  clear h2 h4
  have HK := Lib.hid (P.ut pc ver hC.out (by have := HN.out; omega) HF.out HW.out.2)
  go_wp2_with fail
  refine HK.out.mono ?_
  rintro e' wk11 ⟨A1, p1, rfl, hr, hb⟩
  replace hC := Lib.hid (hC.out.later hb)
  replace BB := Lib.hid (BB.out.trans (hb.mono BB.out.size))
  have h1 := Lib.hid hr
  clear HK hb hr
  have HK := Lib.hid (refs_any (p := p1) h1.out (by rw [h1.out.len]; have := upL_len C ver; have := hC.out.len; have := HN.out; omega))
  go_wp2_with fail
  refine HK.out.mono ?_
  rintro e' wk12 ⟨A2, p2, rfl, hr, hb⟩
  replace hC := Lib.hid (hC.out.later hb)
  replace h1 := Lib.hid (h1.out.later hb)
  replace BB := Lib.hid (BB.out.trans (hb.mono BB.out.size))
  have h2 := Lib.hid hr
  clear HK hb hr
  clear h1
  have HK := Lib.hid (refs_any (p := pc) hC.out (by have := HN.out; omega))
  go_wp2_with fail
  refine HK.out.mono ?_
  rintro e' wk13 ⟨A3, p3, rfl, hr, hb⟩
  replace hC := Lib.hid (hC.out.later hb)
  replace h2 := Lib.hid (h2.out.later hb)
  replace BB := Lib.hid (BB.out.trans (hb.mono BB.out.size))
  have h3 := Lib.hid hr
  clear HK hb hr
  have HK := Lib.hid (rupto_any (p := p3) ver h3.out (by have := HN.out; omega))
  go_wp2_with fail
  refine HK.out.mono ?_
  rintro e' wk14 ⟨A4, p4, rfl, hr, hb⟩
  replace hC := Lib.hid (hC.out.later hb)
  replace h2 := Lib.hid (h2.out.later hb)
  replace h3 := Lib.hid (h3.out.later hb)
  replace BB := Lib.hid (BB.out.trans (hb.mono BB.out.size))
  have h4 := Lib.hid hr
  clear HK hb hr
  clear h3
  have HK := Lib.hid (records_yes (p := p2) (q := p4) h2.out h4.out (by rw [h2.out.len]; have := upL_len C ver; have := hC.out.len; have := HN.out; omega))
  go_wp2_with fail
  refine HK.out.mono ?_
  rintro e' wk15 ⟨rfl, hb⟩
  replace hC := Lib.hid (hC.out.later hb)
  replace h2 := Lib.hid (h2.out.later hb)
  replace h4 := Lib.hid (h4.out.later hb)
  replace BB := Lib.hid (BB.out.trans (hb.mono BB.out.size))
  clear HK hb
  clear h2 h4
  have HK := Lib.hid (fixed_any P wk15)
  go_wp2_with fail
  refine HK.out.mono ?_
  rintro e' wk16 ⟨rfl, hb⟩
  replace hC := Lib.hid (hC.out.later hb)
  replace BB := Lib.hid (BB.out.trans (hb.mono BB.out.size))
  clear HK hb
  go_wp2_with fail
  go_ret
  exact ⟨rfl, BB.out⟩

set_option maxRecDepth 100000 in
theorem lifted (P : Prg) (os : Os) (started : os.Started) (H : Type) (enc : TypeId × Value → H) :
    ReturnsInHanded {} Try.checked os 3 .any (Rows.replayTellsSpec.pre6 enc Try.prog Try.f3 Rows.replayTellsRow.domain false) (Rows.replayTellsSpec.post enc Try.prog Try.f3 false true false false) := by
  refine returnsInHanded_of_change (C := Try.checked) own started (by kernel_rfl) Try.func3
    (ChangeSpec.witness6 (enc := enc) (C := Try.checked) false ⟨#[], #[.slice none 0 0, .int .u64 0, .int .u64 0], []⟩ 8 (by kernel_rfl) (by kernel_rfl) (by kernel_rfl) (by kernel_rfl)) ?_
  intro W base args ds gs before hval0 hW hcnd _
  have hval : ∀ (j : Nat) t v, Try.f3.params[j]? = some t → args[j]? = some v → Value.okWide Try.prog W .any base t v := hval0
  have hW' := hW
  obtain ⟨p, q, hA0, hV, rfl, hfz, hnd⟩ := hW
  have hA : DataW.TrodAll enc Try.prog W 0 (fun _ => true) true Try.f3.params.toList args.toList ds p := hA0
  rw [Try.params3] at hA hval
  obtain ⟨v0, vs0, d0, ds0, p0, q0, hargs, rfl, rfl, h0, r0⟩ := trodAll_cons hA
  obtain ⟨v1, vs1, d1, ds1, p1, q1, rfl, rfl, rfl, h1, r1⟩ := trodAll_cons r0
  obtain ⟨v2, vs2, d2, ds2, p2, q2, rfl, rfl, rfl, h2, r2⟩ := trodAll_cons r1
  obtain ⟨rfl, rfl, rfl⟩ := trodAll_nil r2
  obtain rfl : args = #[v0, v1, v2] := by cases args; simp_all
  obtain ⟨rfl, rfl⟩ := trodVars_none hV
  obtain ⟨A0, n0, c0, L0, rfl, hn0, hL0, hf0⟩ := Re.open_recs (hval 0 22 v0 rfl rfl) h0
  obtain ⟨a1, rfl, rfl, rfl, w1⟩ := open_int Try.underlying23 (hval 1 23 v1 rfl rfl) h1
  obtain ⟨a2, rfl, rfl, rfl, w2⟩ := open_int Try.underlying23 (hval 2 23 v2 rfl rfl) h2
  clear hA0 hval0
  try simp only [List.append_nil] at hW'
  try simp only [List.nil_append] at hW'
  have hlt := fun x hx => hW'.lt x hx
  refine (walk P A0 n0 c0 L0 a1 a2 W hL0 hn0 hf0 (u64_of w1) (u64_of w2)).mono fun e W' ⟨he, hg⟩ => ?_
  subst he
  refine ⟨_, rfl, post_mem hW' (fun _ _ _ => (trodAll_cons_mk (shut_bool Try.underlying4 _) trodAll_mk0)) (fun sp hsp => ?_) (fun _ => rfl) hg (ok_one (by kernel_rfl) rfl (okWide_bool_mk Try.underlying4 _))⟩
  have hall := (trodAll_cons_mk (arg_same (sp := sp) laid (by kernel_rfl) (of_decide_eq_true (by kernel_rfl)) h0 hg (by intro x hx; simp_all) hlt hsp) (trodAll_cons_mk (arg_same (sp := sp) laid (by kernel_rfl) (of_decide_eq_true (by kernel_rfl)) h1 hg (by intro x hx; simp_all) hlt hsp) (trodAll_cons_mk (arg_same (sp := sp) laid (by kernel_rfl) (of_decide_eq_true (by kernel_rfl)) h2 hg (by intro x hx; simp_all) hlt hsp) trodAll_mk0)))
  try simp only [List.append_nil] at hall
  try simp only [List.nil_append] at hall
  exact hall

theorem over (P : Prg) : Rows.replayTellsRow.holds Try.pinned (OpenSpec.ofChange Rows.replayTellsSpec) :=
  OpenClaim.holds_of_wide 3 Try.f3 rfl rfl rfl rfl rfl rfl rfl ⟨rfl, rfl, rfl, rfl, rfl⟩ rfl rfl rfl rfl rfl (by kernel_rfl) Try.func3 (by kernel_rfl)
    (of_decide_eq_true (by kernel_rfl)) (by unfold Func.isWrapper; first | (rw [if_pos (by decide +kernel)]; kernel_rfl) | (rw [if_neg (by decide +kernel)]; exact ⟨rfl, rfl⟩))
    (fun os started H enc _ => lifted P os started H enc)

end Go.Proofs.Ytckakkocblkcoaa.replayTells
