/- For every record the statement RecordFields about record.Encode returns true, and changes nothing. Conditions: none. -/
import Derived.Test.YtgpcfdkblkkpeaaRecQ
import Derived.Test.YtgpcfdkblkkpeaaRecO
import Derived.Deep.DeepCutAuto
import Derived.Deep.LoopGhost
import Derived.StillTailTactics
import Derived.WalkSmall
import Derived.Test.YtgpcfdkblkkpeaaClass
import Derived.Deep.QuietTactic
import Derived.BigQuiet
import Derived.ProofKit
import Derived.OpenShut
import Derived.ShutString
import Derived.SizedLaws
namespace Go.Proofs.Ytgpcfdkblkkpeaa.recordFields
open Go.ChangeShapes Go.WideShapes Go.ChangeAt Go.RowKit Go.Lib Wd Cr Ck
open Go.ChangeMaps (open_string shut_string)
set_option linter.unusedVariables false

theorem own : ownKnob Try.prog.godebug = none := by kernel_rfl
theorem laid : laidOutB Try.prog = true := by kernel_rfl

set_option maxRecDepth 100000 in
set_option maxHeartbeats 8000000 in
theorem no0 (l0 e0 k0 v0 d0 : Int) (i0 a0 : ByteArray) (w : World) (hl0 : 0 ≤ l0 ∧ l0 < 18446744073709551616) (he0 : 0 ≤ e0 ∧ e0 < 4294967296) (hk0 : -9223372036854775808 ≤ k0 ∧ k0 ≤ 9223372036854775807) (hv0 : 0 ≤ v0 ∧ v0 < 18446744073709551616) (hd0 : 0 ≤ d0 ∧ d0 < 18446744073709551616) (hi0 : i0.size ≤ maxLen) (ha0 : a0.size ≤ maxLen) (h : okR ⟨l0, e0, k0, v0, d0, (cut80 i0).data.toList, (cut80 a0).data.toList⟩ = false) :
    Calls Try.prog 8 #[.agg #[.int .u64 l0, .int .u32 e0, .int .i64 k0, .int .u64 v0, .int .u64 d0, .string i0, .string a0]] w fun e' w' => e' = .returned (.bool true) ∧ Below w.heap.size w w' := by
  have E0 := Lib.hid (fun w => encode_no l0 e0 k0 v0 d0 (cut80 i0) (cut80 a0) w (cut80_le i0) (cut80_le a0) h)
  clear h
  have C0 := Lib.hid (fun w => lawcut_any l0 e0 k0 v0 d0 i0 a0 w hi0 ha0)
  have zi0 := cut80_size i0
  have za0 := cut80_size a0
  generalize cut80 i0 = x0 at *
  generalize cut80 a0 = y0 at *
  have G0 := layF l0 e0 k0 v0 d0 i0 a0 25 w
  have B := below1 w (.cells #[.int .u64 l0, .int .u32 e0, .int .i64 k0, .int .u64 v0, .int .u64 d0, .string i0, .string a0] 25)
  clear hi0 ha0
  go_enter Try.func8, Try.ntmps8
  go_wp2_with fail
  refine (C0.out _).mono ?_
  rintro e' w1 ⟨rfl, hb⟩
  replace G0 := G0.later hb
  replace B := Wd.Ge.trans B hb
  clear hb
  obtain ⟨cg, c0, c1, c2, c3, c4, c5, c6⟩ := G0.L
  have z0 := G0.F 0 (by omega)
  have z1 := G0.F 1 (by omega)
  have z2 := G0.F 2 (by omega)
  have z3 := G0.F 3 (by omega)
  have z4 := G0.F 4 (by omega)
  have z5 := G0.F 5 (by omega)
  have z6 := G0.F 6 (by omega)
  go_upto_region 2 with fail
  clear c0 c1 c2 c3 c4 c5 c6 cg
  clear z0 z1 z2 z3 z4 z5 z6
  replace G0 := G0.put (l := l0) (e := e0) (k := k0) (v := v0) (d := d0) (i := x0) (a := y0)
  replace B := below7 l0 e0 k0 v0 d0 x0 y0 B (Nat.le_refl w.heap.size)
  generalize (((((((w1.setCell ⟨w.heap.size, 0, none⟩ (.int .u64 l0)).setCell ⟨w.heap.size, 1, none⟩ (.int .u32 e0)).setCell ⟨w.heap.size, 2, none⟩ (.int .i64 k0)).setCell ⟨w.heap.size, 3, none⟩ (.int .u64 v0)).setCell ⟨w.heap.size, 4, none⟩ (.int .u64 d0)).setCell ⟨w.heap.size, 5, none⟩ (.string x0)).setCell ⟨w.heap.size, 6, none⟩ (.string y0)) = w2 at *
  clear C0
  obtain ⟨cg, c0, c1, c2, c3, c4, c5, c6⟩ := G0.L
  go_wp2_with fail
  refine (E0.out _).mono ?_
  rintro e' w3 ⟨rfl, hb⟩
  clear c0 c1 c2 c3 c4 c5 c6 cg
  replace G0 := G0.later hb
  replace B := Wd.Ge.trans B hb
  clear hb
  go_wp2_with fail
  refine (fixed_any _).mono ?_
  rintro e' w4 ⟨rfl, hb⟩
  go_wp2_with fail
  go_ret
  exact ⟨rfl, Wd.Ge.trans B hb⟩

set_option maxRecDepth 100000 in
set_option maxHeartbeats 16000000 in
theorem yes0 (l0 e0 k0 v0 d0 : Int) (i0 a0 : ByteArray) (w : World) (hl0 : 0 ≤ l0 ∧ l0 < 18446744073709551616) (he0 : 0 ≤ e0 ∧ e0 < 4294967296) (hk0 : -9223372036854775808 ≤ k0 ∧ k0 ≤ 9223372036854775807) (hv0 : 0 ≤ v0 ∧ v0 < 18446744073709551616) (hd0 : 0 ≤ d0 ∧ d0 < 18446744073709551616) (hi0 : i0.size ≤ maxLen) (ha0 : a0.size ≤ maxLen) (h : okR ⟨l0, e0, k0, v0, d0, (cut80 i0).data.toList, (cut80 a0).data.toList⟩ = true) :
    Calls Try.prog 8 #[.agg #[.int .u64 l0, .int .u32 e0, .int .i64 k0, .int .u64 v0, .int .u64 d0, .string i0, .string a0]] w fun e' w' => e' = .returned (.bool true) ∧ Below w.heap.size w w' := by
  obtain ⟨S, HS⟩ : ∃ S : ByteArray, secL ⟨l0, e0, k0, v0, d0, (cut80 i0).data.toList, (cut80 a0).data.toList⟩ = S.data.toList := ⟨⟨(secL ⟨l0, e0, k0, v0, d0, (cut80 i0).data.toList, (cut80 a0).data.toList⟩).toArray⟩, by simp⟩
  have hf : Fits ⟨l0, e0, k0, v0, d0, (cut80 i0).data.toList, (cut80 a0).data.toList⟩ := okA (i := cut80 i0) (a := cut80 a0) hl0 he0 hv0 hd0
  have E0 := Lib.hid (fun w => encode_yes l0 e0 k0 v0 d0 (cut80 i0) (cut80 a0) S w hf h HS)
  have hz : S.size = 128 := by rw [Go.Lib.size_eq, ← HS]; exact secL_len h
  have g1 := Lib.hid (q_l hf h HS)
  have g2 := Lib.hid (q_l2 hf h HS)
  have g3 := Lib.hid (q_e2 hf h HS)
  have g4 := Lib.hid (q_e hf h HS)
  have g5 := Lib.hid (q_v hf h HS)
  have g6 := Lib.hid (q_d hf h HS)
  have b12 := q_k hf h HS (by omega)
  have b13 := q_i hf h HS (by omega)
  have b14 := q_a hf h HS (by omega)
  have hzero := Lib.hid (fun j hj h1 h2 => q_zero hf h HS j hj h1 h2)
  obtain ⟨n, hn⟩ : ∃ n, n = 31 + (cut80 i0).size + (cut80 a0).size := ⟨_, rfl⟩
  have htx := q_text hf h HS n hn
  have hni : 31 + ((cut80 i0).size : Int) + ((cut80 a0).size : Int) = (n : Int) := by omega
  have hle : n ≤ 111 := by
    have h1 := okR_i h
    have h2 := okR_a h
    simp only [← Go.Lib.size_eq] at h1 h2
    omega
  have hu : ¬ 9223372036854775807 < (cut80 i0).size + (cut80 a0).size := by omega
  obtain ⟨U, J⟩ : ∃ U, cut80 i0 ++ cut80 a0 = U := ⟨_, rfl⟩
  rw [J] at htx
  have he1 := he0.1
  have he2 := he0.2
  rw [← hn] at hzero
  clear h HS hf hn
  have C0 := Lib.hid (fun w => lawcut_any l0 e0 k0 v0 d0 i0 a0 w hi0 ha0)
  have zi0 := cut80_size i0
  have za0 := cut80_size a0
  generalize cut80 i0 = x0 at *
  generalize cut80 a0 = y0 at *
  have G0 := layF l0 e0 k0 v0 d0 i0 a0 25 w
  have B := below1 w (.cells #[.int .u64 l0, .int .u32 e0, .int .i64 k0, .int .u64 v0, .int .u64 d0, .string i0, .string a0] 25)
  clear hi0 ha0
  go_enter Try.func8, Try.ntmps8
  go_wp2_with fail
  refine (C0.out _).mono ?_
  rintro e' w1 ⟨rfl, hb⟩
  replace G0 := G0.later hb
  replace B := Wd.Ge.trans B hb
  clear hb
  obtain ⟨cg, c0, c1, c2, c3, c4, c5, c6⟩ := G0.L
  have z0 := G0.F 0 (by omega)
  have z1 := G0.F 1 (by omega)
  have z2 := G0.F 2 (by omega)
  have z3 := G0.F 3 (by omega)
  have z4 := G0.F 4 (by omega)
  have z5 := G0.F 5 (by omega)
  have z6 := G0.F 6 (by omega)
  go_upto_region 2 with fail
  clear c0 c1 c2 c3 c4 c5 c6 cg
  clear z0 z1 z2 z3 z4 z5 z6
  replace G0 := G0.put (l := l0) (e := e0) (k := k0) (v := v0) (d := d0) (i := x0) (a := y0)
  replace B := below7 l0 e0 k0 v0 d0 x0 y0 B (Nat.le_refl w.heap.size)
  generalize (((((((w1.setCell ⟨w.heap.size, 0, none⟩ (.int .u64 l0)).setCell ⟨w.heap.size, 1, none⟩ (.int .u32 e0)).setCell ⟨w.heap.size, 2, none⟩ (.int .i64 k0)).setCell ⟨w.heap.size, 3, none⟩ (.int .u64 v0)).setCell ⟨w.heap.size, 4, none⟩ (.int .u64 d0)).setCell ⟨w.heap.size, 5, none⟩ (.string x0)).setCell ⟨w.heap.size, 6, none⟩ (.string y0)) = w2 at *
  clear C0
  obtain ⟨cg, c0, c1, c2, c3, c4, c5, c6⟩ := G0.L
  go_wp2_with fail
  refine (E0.out _).mono ?_
  rintro e' w3 ⟨rfl, hb⟩
  clear c0 c1 c2 c3 c4 c5 c6 cg
  replace G0 := G0.later hb
  replace B := Wd.Ge.trans B hb
  clear hb
  obtain ⟨cg, c0, c1, c2, c3, c4, c5, c6⟩ := G0.L
  have hzi : (S.size : Int) = 128 := by omega
  have hli : (n : Int) ≤ 111 := by omega
  have h31 : (31 : Int) ≤ n := by omega
  go_upto_region 7 with fail
  go_loop [6] (fun s => ∃ j : Nat, n ≤ j ∧ j ≤ 112 ∧ s = .int .i64 j) (fun s => 112 - (Lib.intOf s).toNat)
  case atStart => exact ⟨n, Nat.le_refl _, by omega, rfl⟩
  case round =>
    obtain ⟨j, hj1, hj2, rfl⟩ := hrel
    by_cases hlt : j < 112
    · have hb0 := hzero.out j (by omega) hj1 hlt
      have hlti : (j : Int) < 112 := by omega
      have hj128 : j < S.size := by omega
      have hj3 : (j : Int) < S.size := by omega
      go_wp2_with fail
      go_round
      case rel => exact ⟨j + 1, by omega, by omega, by go_num⟩
      case measure => simp [Lib.intOf]; omega
    · obtain rfl : j = 112 := by omega
      clear hlt hj1 hj2
      go_wp2_with fail
      have h2 : InvR w w.heap.size l0 e0 k0 v0 d0 x0 y0 w3 := ⟨B, G0.L⟩
      clear c0 c1 c2 c3 c4 c5 c6
      have hne : Nonempty (In (InvR w w.heap.size l0 e0 k0 v0 d0 x0 y0)) := ⟨⟨_, h2⟩⟩
      have F0 : ∀ j : In (InvR w w.heap.size l0 e0 k0 v0 d0 x0 y0), j.W.cell? ⟨w.heap.size, 0, none⟩ = some (.int .u64 l0) := fun j => j.h.m.c0
      have F1 : ∀ j : In (InvR w w.heap.size l0 e0 k0 v0 d0 x0 y0), j.W.cell? ⟨w.heap.size, 1, none⟩ = some (.int .u32 e0) := fun j => j.h.m.c1
      have F2 : ∀ j : In (InvR w w.heap.size l0 e0 k0 v0 d0 x0 y0), j.W.cell? ⟨w.heap.size, 2, none⟩ = some (.int .i64 k0) := fun j => j.h.m.c2
      have F3 : ∀ j : In (InvR w w.heap.size l0 e0 k0 v0 d0 x0 y0), j.W.cell? ⟨w.heap.size, 3, none⟩ = some (.int .u64 v0) := fun j => j.h.m.c3
      have F4 : ∀ j : In (InvR w w.heap.size l0 e0 k0 v0 d0 x0 y0), j.W.cell? ⟨w.heap.size, 4, none⟩ = some (.int .u64 d0) := fun j => j.h.m.c4
      have F5 : ∀ j : In (InvR w w.heap.size l0 e0 k0 v0 d0 x0 y0), j.W.cell? ⟨w.heap.size, 5, none⟩ = some (.string x0) := fun j => j.h.m.c5
      have F6 : ∀ j : In (InvR w w.heap.size l0 e0 k0 v0 d0 x0 y0), j.W.cell? ⟨w.heap.size, 6, none⟩ = some (.string y0) := fun j => j.h.m.c6
      refine region_class (InvR w w.heap.size l0 e0 k0 v0 d0 x0 y0) (by kernel_rfl) (by kernel_rfl) h2.drawn ?_
      repeat (go_big_quiet_step (first
        | (go_at_call 19; with_reducible exact class_call _ (fun hi => inv_ge hi (fixed_any _)))
        | (go_at_call 21; with_reducible exact class_call _ (fun hi => inv_ge hi (r1get (S.extract 0 8) l0 _ g1.out)))
        | (go_at_call 21; with_reducible exact class_call _ (fun hi => inv_ge hi (r1get (S.extract 116 124) l0 _ g2.out)))
        | (go_at_call 21; with_reducible exact class_call _ (fun hi => inv_ge hi (r1get (S.extract 124 128) e0 _ g3.out)))
        | (go_at_call 21; with_reducible exact class_call _ (fun hi => inv_ge hi (r1get (S.extract 8 12) e0 _ g4.out)))
        | (go_at_call 21; with_reducible exact class_call _ (fun hi => inv_ge hi (r1get (S.extract 15 23) v0 _ g5.out)))
        | (go_at_call 21; with_reducible exact class_call _ (fun hi => inv_ge hi (r1get (S.extract 23 31) d0 _ g6.out)))))
      refine wpQuiet_nil ?_
      rintro _ ⟨j, rfl⟩
      go_wp2_with fail
      go_ret
      exact ⟨rfl, j.h.b⟩

theorem walk (l0 e0 k0 v0 d0 : Int) (i0 a0 : ByteArray) (w : World) (hl0 : 0 ≤ l0 ∧ l0 < 18446744073709551616) (he0 : 0 ≤ e0 ∧ e0 < 4294967296) (hk0 : -9223372036854775808 ≤ k0 ∧ k0 ≤ 9223372036854775807) (hv0 : 0 ≤ v0 ∧ v0 < 18446744073709551616) (hd0 : 0 ≤ d0 ∧ d0 < 18446744073709551616) (hi0 : i0.size ≤ maxLen) (ha0 : a0.size ≤ maxLen) :
    Calls Try.prog 8 #[.agg #[.int .u64 l0, .int .u32 e0, .int .i64 k0, .int .u64 v0, .int .u64 d0, .string i0, .string a0]] w fun e' w' => e' = .returned (.bool true) ∧ Below w.heap.size w w' := by
  cases h0 : okR ⟨l0, e0, k0, v0, d0, (cut80 i0).data.toList, (cut80 a0).data.toList⟩
  · exact no0 l0 e0 k0 v0 d0 i0 a0 w hl0 he0 hk0 hv0 hd0 hi0 ha0 h0
  · exact yes0 l0 e0 k0 v0 d0 i0 a0 w hl0 he0 hk0 hv0 hd0 hi0 ha0 h0

set_option maxRecDepth 100000 in
theorem lifted (os : Os) (started : os.Started) (H : Type) (enc : TypeId × Value → H) :
    ReturnsInHanded {} Try.checked os 8 .any (Rows.recordFieldsSpec.pre6 enc Try.prog Try.f8 Rows.recordFieldsRow.domain false) (Rows.recordFieldsSpec.post enc Try.prog Try.f8 false true false false) := by
  refine returnsInHanded_of_change (C := Try.checked) own started (by kernel_rfl) Try.func8
    (ChangeSpec.witness6 (enc := enc) (C := Try.checked) false ⟨#[], #[.agg #[.int .u64 0, .int .u32 0, .int .i64 0, .int .u64 0, .int .u64 0, .string ByteArray.empty, .string ByteArray.empty]], []⟩ 8 (by kernel_rfl) (by kernel_rfl) (by kernel_rfl) (by kernel_rfl)) ?_
  intro W base args ds gs before hval0 hW hcnd _
  have hval : ∀ (j : Nat) t v, Try.f8.params[j]? = some t → args[j]? = some v → Value.okWide Try.prog W .any base t v := hval0
  have hW' := hW
  obtain ⟨p, q, hA0, hV, rfl, hfz, hnd⟩ := hW
  have hA : DataW.TrodAll enc Try.prog W 0 (fun _ => true) true Try.f8.params.toList args.toList ds p := hA0
  rw [Try.params8] at hA hval
  obtain ⟨v0, vs0, d0, ds0, p0, q0, hargs, rfl, rfl, h0, r0⟩ := trodAll_cons hA
  obtain ⟨rfl, rfl, rfl⟩ := trodAll_nil r0
  obtain rfl : args = #[v0] := by cases args; simp_all
  obtain ⟨rfl, rfl⟩ := trodVars_none hV
  obtain ⟨l0, e0, k0, v0, d0, i0, a0, rfl, hl0, he0, hk0, hv0, hd0, hi0, ha0⟩ := open_rec (hval 0 25 v0 rfl rfl) h0
  clear hA0 hval0
  try simp only [List.append_nil] at hW'
  try simp only [List.nil_append] at hW'
  have hlt := fun x hx => hW'.lt x hx
  refine (walk l0 e0 k0 v0 d0 i0 a0 W hl0 he0 hk0 hv0 hd0 hi0 ha0).mono fun e W' ⟨he, hg⟩ => ?_
  subst he
  refine ⟨_, rfl, post_mem hW' (fun _ _ _ => (trodAll_cons_mk (shut_bool Try.underlying4 _) trodAll_mk0)) (fun sp hsp => ?_) (fun _ => rfl) hg (ok_one (by kernel_rfl) rfl (okWide_bool_mk Try.underlying4 _))⟩
  have hall := (trodAll_cons_mk (arg_same (sp := sp) laid (by kernel_rfl) (of_decide_eq_true (by kernel_rfl)) h0 hg (by intro x hx; simp_all) hlt hsp) trodAll_mk0)
  try simp only [List.append_nil] at hall
  try simp only [List.nil_append] at hall
  exact hall

theorem over : Rows.recordFieldsRow.holds Try.pinned (OpenSpec.ofChange Rows.recordFieldsSpec) :=
  OpenClaim.holds_of_wide 8 Try.f8 rfl rfl rfl rfl rfl rfl rfl ⟨rfl, rfl, rfl, rfl, rfl⟩ rfl rfl rfl rfl rfl (by kernel_rfl) Try.func8 (by kernel_rfl)
    (of_decide_eq_true (by kernel_rfl)) (by unfold Func.isWrapper; first | (rw [if_pos (by decide +kernel)]; kernel_rfl) | (rw [if_neg (by decide +kernel)]; exact ⟨rfl, rfl⟩))
    (fun os started H enc _ => lifted os started H enc)

theorem proved : Rows.RecordFieldsSaid := over
#print axioms proved
end Go.Proofs.Ytgpcfdkblkkpeaa.recordFields
