/- For every list of records, and numbers, the statement ReplayJoins about replay returns true, and changes nothing. Conditions: none. -/
import Derived.Test.YtckakkocblkcoaaReR
import Derived.ProofKit
import Derived.OpenShut
import Derived.ShutString
import Derived.SizedLaws
namespace Go.Proofs.Ytckakkocblkcoaa.replayJoins
open Go.ChangeShapes Go.WideShapes Go.ChangeAt Go.RowKit Go.Lib Go.MapKept
open Go.ChangeMaps (open_string shut_string)
set_option linter.unusedVariables false

theorem own : ownKnob Try.prog.godebug = none := by kernel_rfl
theorem laid : laidOutB Try.prog = true := by kernel_rfl

set_option maxRecDepth 100000
open Re Sp
theorem joins_eq (C K : List Rec) : newest (newest C ++ newest K) = newest (C ++ K) := newest_ext fun x => by rw [best_append, best_append, best_newest, best_newest]
set_option maxHeartbeats 16000000 in
theorem walk (P : Prg) (A : Option Addr) (n p : Nat) (L : List Rec) (A' : Option Addr) (n' p' : Nat) (L' : List Rec) (w : World) (hL : RR w A n L) (hn : n ≤ maxLen) (hf : Fine L) (hL' : RR w A' n' L') (hn' : n' ≤ maxLen) (hf' : Fine L') :
    Calls Try.prog 7 #[.slice A n p, .slice A' n' p'] w fun e w' => e = .returned (.bool true) ∧ Below w.heap.size w w' := by
  have HC : Hid (Calls Try.prog 9 #[.slice A n p, .int .i64 20] w fun e w' => ∃ g' p', e = .returned (.slice (some ⟨g', 0, none⟩) (min 20 n) p') ∧ RR w' (some ⟨g', 0, none⟩) (min 20 n) (cutL L 20) ∧ Below w.heap.size w w') := Lib.hid (cut_any p hL hn 20 (by decide) hf)
  have HC2 : Hid (∀ W, Below w.heap.size w W → Calls Try.prog 9 #[.slice A' n' p', .int .i64 20] W fun e w' => ∃ g' p', e = .returned (.slice (some ⟨g', 0, none⟩) (min 20 n') p') ∧ RR w' (some ⟨g', 0, none⟩) (min 20 n') (cutL L' 20) ∧ Below W.heap.size W w') := Lib.hid (fun W hb => cut_any p' (hL'.later hb) hn' 20 (by decide) hf')
  have HF := Lib.hid (And.intro (cut_fine hf 20) (cut_fine hf' 20))
  have HN := Lib.hid (show min 20 n ≤ 20 ∧ min 20 n' ≤ 20 by omega)
  clear hL hn hf hL' hn' hf'
  generalize cutL L 20 = C at *
  generalize min 20 n = nc at *
  generalize cutL L' 20 = K at *
  generalize min 20 n' = nk at *
  go_enter Try.func7, Try.ntmps7
  go_wp2_with fail
  refine HC.out.mono ?_
  rintro e' w1 ⟨gc, pc, rfl, hr, hb⟩
  have HQ := Lib.hid (HC2.out _ hb)
  have hC := Lib.hid hr
  have BB := Lib.hid hb
  clear HC HC2 hr hb
  go_wp2_with fail
  refine HQ.out.mono ?_
  rintro e' w2 ⟨gk, pk, rfl, hr, hb⟩
  have hK := Lib.hid hr
  replace hC := Lib.hid (hC.out.later hb)
  replace BB := Lib.hid (BB.out.trans (hb.mono BB.out.size))
  clear HQ hr hb
  have S3 : Sp.Sep w2 (w2.alloc (.cells #[] 42)) [rowS 42 7 (.slice (some ⟨w2.heap.size, 0, none⟩) 0 0) 0 []] := rows_lit (Sp.Sep.nil (Below.refl _ _)) 42 7
  have hCw := hC.out.later S3.below
  have hk1 : 0 + nc < 1000 := by have := HN.out; omega
  go_upto_region 4 with (refine wp_append_r rfl (.tmp 11) (.tmp 12) rfl rfl _ _ _ rfl S3 0 rfl hCw hk1 ?_; intro g5 p5 w5 h5; have H5 := Lib.hid h5; clear h5)
  have S5 : Sp.Sep w2 w5 [rowS 42 7 (.slice (some ⟨g5, 0, none⟩) nc p5) nc (C.flatMap rcC)] := by simpa using H5.out
  clear H5 S3 hCw hk1
  try simp only [Nat.zero_add]
  have hKw := hK.out.later S5.below
  have hk1 : nc + nk < 1000 := by have := HN.out; omega
  go_upto_region 5 with (refine wp_append_r rfl (.tmp 14) (.tmp 15) rfl rfl _ _ _ rfl S5 0 rfl hKw hk1 ?_; intro g6 p6 w6 h6; have H6 := Lib.hid h6; clear h6)
  have S6 : Sp.Sep w2 w6 [rowS 42 7 (.slice (some ⟨g6, 0, none⟩) (nc + nk) p6) (nc + nk) ((C ++ K).flatMap rcC)] := by simpa using H6.out
  have S7 := rows_lit S6 42 7
  have HNC := Lib.hid (P.nw pc (hC.out.later S7.below) (by have := HN.out; omega) HF.out.1)
  have HS7 := Lib.hid S7
  clear H6 S5 hKw hk1 S6 S7
  obtain ⟨b6, e6⟩ : ∃ z, w6.heap.size = z := ⟨_, rfl⟩
  rw [e6] at HS7
  go_wp2_with fail
  clear e6
  refine HNC.out.mono ?_
  rintro e' w8 ⟨A8, p8, rfl, hr8, hb8⟩
  have S8 : Sp.Sep w2 w8 [rowS 42 7 (.slice (some ⟨g6, 0, none⟩) (nc + nk) p6) (nc + nk) ((C ++ K).flatMap rcC), rowS 42 7 (.slice (some ⟨b6, 0, none⟩) 0 0) 0 []] := HS7.out.later hb8
  have hk1 : 0 + (newest C).length < 1000 := by have h1 := newest_len C; have h2 := hC.out.len; have := HN.out; omega
  clear HNC HS7 hb8
  go_upto_region 6 with (refine wp_append_r rfl (.tmp 17) (.tmp 19) rfl rfl _ _ _ rfl S8 1 rfl hr8 hk1 ?_; intro g9 p9 w9 h9; have H9 := Lib.hid h9; clear h9)
  have S9 : Sp.Sep w2 w9 [rowS 42 7 (.slice (some ⟨g6, 0, none⟩) (nc + nk) p6) (nc + nk) ((C ++ K).flatMap rcC), rowS 42 7 (.slice (some ⟨g9, 0, none⟩) (newest C).length p9) (newest C).length ((newest C).flatMap rcC)] := by simpa using H9.out
  try simp only [Nat.zero_add]
  have HNK := Lib.hid (P.nw pk (hK.out.later S9.below) (by have := HN.out; omega) HF.out.2)
  have HS9 := Lib.hid S9
  clear H9 S8 hr8 hk1 S9
  go_wp2_with fail
  refine HNK.out.mono ?_
  rintro e' wa ⟨Aa, pa, rfl, hra, hba⟩
  have Sa := HS9.out.later hba
  have hk1 : (newest C).length + (newest K).length < 1000 := by have h1 := newest_len C; have h2 := hC.out.len; have h3 := newest_len K; have h4 := hK.out.len; have := HN.out; omega
  clear HNK HS9 hba
  go_upto_region 7 with (refine wp_append_r rfl (.tmp 21) (.tmp 23) rfl rfl _ _ _ rfl Sa 1 rfl hra hk1 ?_; intro g7 p7 wk0 hb7; have Hb := Lib.hid hb7; clear hb7)
  have Sb : Sp.Sep w2 wk0 [rowS 42 7 (.slice (some ⟨g6, 0, none⟩) (nc + nk) p6) (nc + nk) ((C ++ K).flatMap rcC), rowS 42 7 (.slice (some ⟨g7, 0, none⟩) ((newest C).length + (newest K).length) p7) ((newest C).length + (newest K).length) ((newest C ++ newest K).flatMap rcC)] := by simpa using Hb.out
  have hA := Lib.hid (RR.of_row Sb (k := 0) rfl (L := C ++ K) (by rw [List.length_append, hC.out.len, hK.out.len]))
  have hS := Lib.hid (RR.of_row Sb (k := 1) rfl (L := newest C ++ newest K) (by rw [List.length_append]))
  have hnA : nc + nk ≤ 200 := by have := HN.out; omega
  have hnS : (newest C).length + (newest K).length ≤ 200 := by have h1 := newest_len C; have h2 := hC.out.len; have h3 := newest_len K; have h4 := hK.out.len; have := HN.out; omega
  have HFA : Fine (C ++ K) := fun r hr => (List.mem_append.1 hr).elim (HF.out.1 r) (HF.out.2 r)
  have HFS : Fine (newest C ++ newest K) := fun r hr => (List.mem_append.1 hr).elim (newest_fine HF.out.1 r) (newest_fine HF.out.2 r)
  have HFF := Lib.hid (And.intro (And.intro hnA hnS) (And.intro HFA HFS))
  replace BB := Lib.hid (BB.out.trans (Sb.below.mono BB.out.size))
  clear Hb Sa hra hk1 Sb hnA hnS HFA HFS hC hK HF HN
  generalize (newest C).length + (newest K).length = ns at *
  generalize nc + nk = na at *
  have HK := Lib.hid (P.nw p6 hA.out HFF.out.1.1 HFF.out.2.1)
  go_wp2_with fail
  refine HK.out.mono ?_
  rintro e' wk1 ⟨A1, p1, rfl, hr, hb⟩
  replace hA := Lib.hid (hA.out.later hb)
  replace hS := Lib.hid (hS.out.later hb)
  replace BB := Lib.hid (BB.out.trans (hb.mono BB.out.size))
  have h1 := Lib.hid hr
  clear HK hb hr
  have HK := Lib.hid (refs_any (p := p1) h1.out (by rw [h1.out.len]; have := newest_len (C ++ K); have := hA.out.len; have := HFF.out.1.1; omega))
  go_wp2_with fail
  refine HK.out.mono ?_
  rintro e' wk2 ⟨A2, p2, rfl, hr, hb⟩
  replace hA := Lib.hid (hA.out.later hb)
  replace hS := Lib.hid (hS.out.later hb)
  replace h1 := Lib.hid (h1.out.later hb)
  replace BB := Lib.hid (BB.out.trans (hb.mono BB.out.size))
  have h2 := Lib.hid hr
  clear HK hb hr
  clear h1
  have HK := Lib.hid (by have h := P.nw p7 hS.out HFF.out.1.2 HFF.out.2.2; rw [joins_eq] at h; exact h)
  go_wp2_with fail
  refine HK.out.mono ?_
  rintro e' wk3 ⟨A3, p3, rfl, hr, hb⟩
  replace hA := Lib.hid (hA.out.later hb)
  replace hS := Lib.hid (hS.out.later hb)
  replace h2 := Lib.hid (h2.out.later hb)
  replace BB := Lib.hid (BB.out.trans (hb.mono BB.out.size))
  have h3 := Lib.hid hr
  clear HK hb hr
  have HK := Lib.hid (refs_any (p := p3) h3.out (by rw [h3.out.len]; have := newest_len (C ++ K); have := hA.out.len; have := HFF.out.1.1; omega))
  go_wp2_with fail
  refine HK.out.mono ?_
  rintro e' wk4 ⟨A4, p4, rfl, hr, hb⟩
  replace hA := Lib.hid (hA.out.later hb)
  replace hS := Lib.hid (hS.out.later hb)
  replace h2 := Lib.hid (h2.out.later hb)
  replace h3 := Lib.hid (h3.out.later hb)
  replace BB := Lib.hid (BB.out.trans (hb.mono BB.out.size))
  have h4 := Lib.hid hr
  clear HK hb hr
  clear h3
  have HK := Lib.hid (records_yes (p := p2) (q := p4) h2.out h4.out (by rw [h2.out.len]; have := newest_len (C ++ K); have := hA.out.len; have := HFF.out.1.1; omega))
  go_wp2_with fail
  refine HK.out.mono ?_
  rintro e' wk5 ⟨rfl, hb⟩
  replace hA := Lib.hid (hA.out.later hb)
  replace hS := Lib.hid (hS.out.later hb)
  replace h2 := Lib.hid (h2.out.later hb)
  replace h4 := Lib.hid (h4.out.later hb)
  replace BB := Lib.hid (BB.out.trans (hb.mono BB.out.size))
  clear HK hb
  clear h2 h4
  have HK := Lib.hid (fixed_any P wk5)
  go_wp2_with fail
  refine HK.out.mono ?_
  rintro e' wk6 ⟨rfl, hb⟩
  replace hA := Lib.hid (hA.out.later hb)
  replace hS := Lib.hid (hS.out.later hb)
  replace BB := Lib.hid (BB.out.trans (hb.mono BB.out.size))
  clear HK hb
  go_wp2_with fail
  go_ret
  exact ⟨rfl, BB.out⟩

set_option maxRecDepth 100000 in
theorem lifted (P : Prg) (os : Os) (started : os.Started) (H : Type) (enc : TypeId × Value → H) :
    ReturnsInHanded {} Try.checked os 7 .any (Rows.replayJoinsSpec.pre6 enc Try.prog Try.f7 Rows.replayJoinsRow.domain false) (Rows.replayJoinsSpec.post enc Try.prog Try.f7 false true false false) := by
  refine returnsInHanded_of_change (C := Try.checked) own started (by kernel_rfl) Try.func7
    (ChangeSpec.witness6 (enc := enc) (C := Try.checked) false ⟨#[], #[.slice none 0 0, .slice none 0 0], []⟩ 8 (by kernel_rfl) (by kernel_rfl) (by kernel_rfl) (by kernel_rfl)) ?_
  intro W base args ds gs before hval0 hW hcnd _
  have hval : ∀ (j : Nat) t v, Try.f7.params[j]? = some t → args[j]? = some v → Value.okWide Try.prog W .any base t v := hval0
  have hW' := hW
  obtain ⟨p, q, hA0, hV, rfl, hfz, hnd⟩ := hW
  have hA : DataW.TrodAll enc Try.prog W 0 (fun _ => true) true Try.f7.params.toList args.toList ds p := hA0
  rw [Try.params7] at hA hval
  obtain ⟨v0, vs0, d0, ds0, p0, q0, hargs, rfl, rfl, h0, r0⟩ := trodAll_cons hA
  obtain ⟨v1, vs1, d1, ds1, p1, q1, rfl, rfl, rfl, h1, r1⟩ := trodAll_cons r0
  obtain ⟨rfl, rfl, rfl⟩ := trodAll_nil r1
  obtain rfl : args = #[v0, v1] := by cases args; simp_all
  obtain ⟨rfl, rfl⟩ := trodVars_none hV
  obtain ⟨A0, n0, c0, L0, rfl, hn0, hL0, hf0⟩ := Re.open_recs (hval 0 22 v0 rfl rfl) h0
  obtain ⟨A1, n1, c1, L1, rfl, hn1, hL1, hf1⟩ := Re.open_recs (hval 1 22 v1 rfl rfl) h1
  clear hA0 hval0
  try simp only [List.append_nil] at hW'
  try simp only [List.nil_append] at hW'
  have hlt := fun x hx => hW'.lt x hx
  refine (walk P A0 n0 c0 L0 A1 n1 c1 L1 W hL0 hn0 hf0 hL1 hn1 hf1).mono fun e W' ⟨he, hg⟩ => ?_
  subst he
  refine ⟨_, rfl, post_mem hW' (fun _ _ _ => (trodAll_cons_mk (shut_bool Try.underlying4 _) trodAll_mk0)) (fun sp hsp => ?_) (fun _ => rfl) hg (ok_one (by kernel_rfl) rfl (okWide_bool_mk Try.underlying4 _))⟩
  have hall := (trodAll_cons_mk (arg_same (sp := sp) laid (by kernel_rfl) (of_decide_eq_true (by kernel_rfl)) h0 hg (by intro x hx; simp_all) hlt hsp) (trodAll_cons_mk (arg_same (sp := sp) laid (by kernel_rfl) (of_decide_eq_true (by kernel_rfl)) h1 hg (by intro x hx; simp_all) hlt hsp) trodAll_mk0))
  try simp only [List.append_nil] at hall
  try simp only [List.nil_append] at hall
  exact hall

theorem over (P : Prg) : Rows.replayJoinsRow.holds Try.pinned (OpenSpec.ofChange Rows.replayJoinsSpec) :=
  OpenClaim.holds_of_wide 7 Try.f7 rfl rfl rfl rfl rfl rfl rfl ⟨rfl, rfl, rfl, rfl, rfl⟩ rfl rfl rfl rfl rfl (by kernel_rfl) Try.func7 (by kernel_rfl)
    (of_decide_eq_true (by kernel_rfl)) (by unfold Func.isWrapper; first | (rw [if_pos (by decide +kernel)]; kernel_rfl) | (rw [if_neg (by decide +kernel)]; exact ⟨rfl, rfl⟩))
    (fun os started H enc _ => lifted P os started H enc)

end Go.Proofs.Ytckakkocblkcoaa.replayJoins
