/- For every two strings and every cut the statement CheckParts about check.ID and check.Value returns true, and changes nothing. Conditions: none. -/
import Derived.Test.YtnhkgialdnbohaaCheckF
import Derived.Test.YtnhkgialdnbohaaClass
import Derived.Test.YtnhkgialdnbohaaFrame
import Derived.Test.YtnhkgialdnbohaaFloatArg
import Derived.Laws.Cover2
import Derived.Deep.QuietTactic
import Derived.BigQuiet
import Derived.StillTailTactics
import Derived.WalkSmall
import Derived.Deep.DeepCutAuto
import Derived.Deep.RegionWith
import Derived.Deep.LoopGhost
import Derived.ProofKit
import Derived.OpenShut
import Derived.ShutString
import Derived.SizedLaws
namespace Go.Proofs.Ytnhkgialdnbohaa.checkParts
open Go.ChangeShapes Go.WideShapes Go.ChangeAt Go.RowKit Go.Lib
open Go.ChangeMaps (open_string shut_string)
set_option linter.unusedVariables false

theorem own : ownKnob Try.prog.godebug = none := by kernel_rfl

open Flt

theorem id_cat (S T : ByteArray) (h1 : idB S.data.toList = true) (h2 : idB T.data.toList = true) : idB (S ++ ⟨#[45]⟩ ++ T).data.toList = decide ((S.size : Int) + 1 + T.size ≤ 16) := by
  have e1 := Go.Lib.size_eq S
  have e2 := Go.Lib.size_eq T
  unfold idB at h1 h2
  rw [Bool.and_eq_true, decide_eq_true_iff] at h1 h2
  unfold idB
  rw [ByteArray.data_append, ByteArray.data_append, Array.toList_append, Array.toList_append, oks_append, oks_append, h1.2, h2.2]
  have o : oks [45] = true := by decide
  rw [show (⟨#[45]⟩ : ByteArray).data.toList = [45] from rfl, o]
  simp only [List.length_append, List.length_cons, List.length_nil, Bool.and_true]
  rw [Bool.eq_iff_iff, decide_eq_true_iff, decide_eq_true_iff]
  omega
theorem id_take (S : ByteArray) (k : Nat) (h : idB S.data.toList = true) (h0 : 0 < k) (h1 : k ≤ S.size) : idB (S.extract 0 k).data.toList = true := by
  have e1 := Go.Lib.size_eq S
  unfold idB at h
  rw [Bool.and_eq_true, decide_eq_true_iff] at h
  unfold idB
  rw [Go.Lib.extract_data, List.drop_zero, Nat.sub_zero, oks_take _ _ h.2, Bool.and_true, decide_eq_true_iff, List.length_take]
  omega
theorem id_drop (S : ByteArray) (k : Nat) (h : idB S.data.toList = true) (h1 : k < S.size) : idB (S.extract k S.size).data.toList = true := by
  have e1 := Go.Lib.size_eq S
  unfold idB at h
  rw [Bool.and_eq_true, decide_eq_true_iff] at h
  unfold idB
  rw [Go.Lib.extract_data, List.take_of_length_le (by rw [List.length_drop]; omega), oks_drop _ _ h.2, Bool.and_true, decide_eq_true_iff, List.length_drop]
  omega
theorem id_pos (S : ByteArray) (h : idB S.data.toList = true) : 1 ≤ S.size ∧ S.size ≤ 16 := by
  have e1 := Go.Lib.size_eq S
  unfold idB at h
  rw [Bool.and_eq_true, decide_eq_true_iff] at h
  omega

set_option maxRecDepth 100000 in
set_option maxHeartbeats 4000000 in
theorem walk (a0 a1 : ByteArray) (a2 : Int) (w0 : a0.size ≤ maxLen) (w1 : a1.size ≤ maxLen) (w2 : (Lit.int .u8 a2).wf = true) (z0 : a0.size ≤ 140737488351232) (z1 : a1.size ≤ 140737488351232) (w : World) :
    Calls Try.prog 4 #[.string a0, .string a1, .int .u8 a2] w fun e w' => e = .returned (.bool true) ∧ Below w.heap.size w w' := by
  obtain ⟨b0, b1⟩ := bounds_u8 w2
  clear w2
  go_enter Try.func4, Try.ntmps4
  go_upto_region 1 with fail
  go_cut [0] (fun s0 wx => ∃ S : ByteArray, s0 = .string S ∧ S.size ≤ 40 ∧ w = wx)
  case first =>
    by_cases h : (a0.size : Int) ≤ 40
    · go_wp2_with fail
      go_meet
      exact ⟨a0, rfl, by omega, rfl⟩
    · go_wp2_with fail
      go_meet
      exact ⟨_, rfl, by rw [ByteArray.size_extract]; omega, rfl⟩
  case rest =>
  obtain ⟨S, rfl, hS, rfl⟩ := hcut
  go_upto_region 2 with fail
  go_cut [1] (fun s0 wx => ∃ S : ByteArray, s0 = .string S ∧ S.size ≤ 40 ∧ w = wx)
  case first =>
    by_cases h : (a1.size : Int) ≤ 40
    · go_wp2_with fail
      go_meet
      exact ⟨a1, rfl, by omega, rfl⟩
    · go_wp2_with fail
      go_meet
      exact ⟨_, rfl, by rw [ByteArray.size_extract]; omega, rfl⟩
  case rest =>
  obtain ⟨T, rfl, hT, rfl⟩ := hcut
  have mS : S.size ≤ maxLen := by unfold maxLen; omega
  have mT : T.size ≤ maxLen := by unfold maxLen; omega
  obtain ⟨U, HU⟩ : ∃ U : ByteArray, Hid (S ++ ⟨#[45]⟩ ++ T = U) := ⟨_, rfl⟩
  have sU : U.size = S.size + 1 + T.size := by rw [← HU.out, ByteArray.size_append, ByteArray.size_append]; rfl
  have mU : U.size ≤ maxLen := by unfold maxLen; omega
  go_upto_region 4 with fail
  rw [HU.out]
  have SU := Lib.hid sU
  clear sU
  go_cut [36] (fun s36 wx => s36 = .bool false ∧ w = wx)
  case first =>
    cases e1 : idB S.data.toList
    · have C1 := Lib.hid (fun w => id_is S false w mS e1)
      clear e1
      go_wp2_with fail
      (with_reducible refine (C1.out _).mono ?_)
      rintro e w0 ⟨rfl, rfl⟩
      go_wp2_with fail
      go_meet
      exact ⟨rfl, rfl⟩
    · have C1 := Lib.hid (fun w => id_is S true w mS e1)
      cases e2 : idB T.data.toList
      · have C2 := Lib.hid (fun w => id_is T false w mT e2)
        clear e1 e2
        go_wp2_with fail
        (with_reducible refine (C1.out _).mono ?_)
        rintro e w0 ⟨rfl, rfl⟩
        go_wp2_with fail
        (with_reducible refine (C2.out _).mono ?_)
        rintro e w0 ⟨rfl, rfl⟩
        go_wp2_with fail
        go_meet
        exact ⟨rfl, rfl⟩
      · have C2 := Lib.hid (fun w => id_is T true w mT e2)
        obtain ⟨b, hb⟩ : ∃ b, decide ((U.size : Int) ≤ 16) = b := ⟨_, rfl⟩
        have C3 := Lib.hid (fun w => id_is U b w mU (by rw [← hb, ← HU.out, id_cat S T e1 e2, HU.out, SU.out]; rfl))
        clear e1 e2
        go_wp2_with fail
        (with_reducible refine (C1.out _).mono ?_)
        rintro e w0 ⟨rfl, rfl⟩
        go_wp2_with fail
        (with_reducible refine (C2.out _).mono ?_)
        rintro e w0 ⟨rfl, rfl⟩
        go_wp2_with fail
        (with_reducible refine (C3.out _).mono ?_)
        rintro e w0 ⟨rfl, rfl⟩
        go_wp2_with fail
        go_meet
        exact ⟨rfl, rfl⟩
  case rest =>
  obtain ⟨rfl, rfl⟩ := hcut
  clear SU
  obtain ⟨k, hk⟩ := Int.eq_ofNat_of_zero_le (show 0 ≤ a2 % ((S.size : Int) + 1) from Int.emod_nonneg _ (by omega))
  have hkl : a2 % ((S.size : Int) + 1) < (S.size : Int) + 1 := Int.emod_lt_of_pos _ (by omega)
  have hkk : (k : Int) ≤ S.size := by omega
  clear hkl
  go_upto_region 7 with fail
  rw [hk]
  clear hk
  go_cut [68] (fun s68 wx => s68 = .bool false ∧ w = wx)
  case first =>
    cases e1 : idB S.data.toList
    · have C1 := Lib.hid (fun w => id_is S false w mS e1)
      clear e1
      go_wp2_with fail
      (with_reducible refine (C1.out _).mono ?_)
      rintro e w0 ⟨rfl, rfl⟩
      go_wp2_with fail
      go_meet
      exact ⟨rfl, rfl⟩
    · have C1 := Lib.hid (fun w => id_is S true w mS e1)
      have hp := id_pos S e1
      by_cases h0 : (k : Int) = 0
      · obtain rfl : k = 0 := by omega
        have h1 : 0 < (S.size : Int) := by omega
        have h2 : 0 < S.size := by omega
        clear e1 hp h0 hkk
        go_wp2_with fail
        (with_reducible refine (C1.out _).mono ?_)
        rintro e w0 ⟨rfl, rfl⟩
        go_wp2_with fail
        (with_reducible refine (C1.out _).mono ?_)
        rintro e w0 ⟨rfl, rfl⟩
        go_wp2_with fail
        go_meet
        exact ⟨rfl, rfl⟩
      · have C2 := Lib.hid (fun w => id_is (S.extract 0 k) true w (by rw [ByteArray.size_extract]; unfold maxLen; omega) (id_take S k e1 (by omega) (by omega)))
        have h1 : 0 < (k : Int) := by omega
        have h1' : 0 < k := by omega
        by_cases h2 : k < S.size
        · have C3 := Lib.hid (fun w => id_is (S.extract k S.size) true w (by rw [ByteArray.size_extract]; unfold maxLen; omega) (id_drop S k e1 h2))
          clear e1 hp h0
          go_wp2_with fail
          (with_reducible refine (C1.out _).mono ?_)
          rintro e w0 ⟨rfl, rfl⟩
          go_wp2_with fail
          (with_reducible refine (C2.out _).mono ?_)
          rintro e w0 ⟨rfl, rfl⟩
          go_wp2_with fail
          (with_reducible refine (C3.out _).mono ?_)
          rintro e w0 ⟨rfl, rfl⟩
          go_wp2_with fail
          go_meet
          exact ⟨rfl, rfl⟩
        · clear e1 hp h0
          go_wp2_with fail
          (with_reducible refine (C1.out _).mono ?_)
          rintro e w0 ⟨rfl, rfl⟩
          go_wp2_with fail
          (with_reducible refine (C2.out _).mono ?_)
          rintro e w0 ⟨rfl, rfl⟩
          go_wp2_with fail
          go_meet
          exact ⟨rfl, rfl⟩
  case rest =>
  obtain ⟨rfl, rfl⟩ := hcut
  have C1 := Lib.hid (fun w => value_is S true w mS (by unfold vaB; rw [decide_eq_true_iff]; omega))
  obtain ⟨V, HV⟩ : ∃ V : ByteArray, Hid (S ++ T ++ ⟨#[48, 49, 50, 51, 52, 53, 54, 55, 56, 57, 48, 49, 50, 51, 52, 53, 54, 55, 56, 57, 48, 49, 50, 51]⟩ = V) := ⟨_, rfl⟩
  have sV : V.size = S.size + T.size + 24 := by rw [← HV.out, ByteArray.size_append, ByteArray.size_append]; rfl
  obtain ⟨b, hb⟩ : ∃ b, decide ((S.size : Int) + T.size ≤ 40) = b := ⟨_, rfl⟩
  have C2 := Lib.hid (fun w => value_is V b w (by unfold maxLen; omega) (by rw [← hb]; unfold vaB; rw [Bool.eq_iff_iff, decide_eq_true_iff, decide_eq_true_iff]; omega))
  clear sV
  go_wp2_with fail
  (with_reducible refine (C1.out _).mono ?_)
  rintro e w0 ⟨rfl, rfl⟩
  go_wp2_with fail
  rw [HV.out]
  (with_reducible refine (C2.out _).mono ?_)
  rintro e w0 ⟨rfl, rfl⟩
  go_wp2_with fail
  refine (fixed_any _).mono ?_
  rintro e w1 ⟨rfl, hB⟩
  go_wp2_with fail
  go_ret
  exact ⟨rfl, hB⟩

set_option maxRecDepth 100000 in
theorem lifted (os : Os) (started : os.Started) (H : Type) (enc : TypeId × Value → H) :
    ReturnsInHanded {} Try.checked os 4 .any (Rows.checkPartsSpec.pre6 enc Try.prog Try.f4 Rows.checkPartsRow.domain false) (Rows.checkPartsSpec.post enc Try.prog Try.f4 false true false false) := by
  refine returnsInHanded_of_change_sized (C := Try.checked) own started (by kernel_rfl) Try.func4
    (ChangeSpec.witness6 (enc := enc) (C := Try.checked) false ⟨#[], #[.string ByteArray.empty, .string ByteArray.empty, .int .u8 0], []⟩ 8 (by kernel_rfl) (by kernel_rfl) (by kernel_rfl) (by kernel_rfl)) ?_
  intro W base args ds gs before hval0 hW hcnd hsz0 _
  have hsz : (DataW.weightsEach Try.prog (Try.f4.params.toList ++ Rows.checkPartsSpec.plain.varTypes Try.prog) (ds ++ gs)).all (· ≤ reachBytes) = true := hsz0
  clear hsz0
  have hval : ∀ (j : Nat) t v, Try.f4.params[j]? = some t → args[j]? = some v → Value.okWide Try.prog W .any base t v := hval0
  have hW' := hW
  obtain ⟨p, q, hA0, hV, rfl, hfz, hnd⟩ := hW
  have hA : DataW.TrodAll enc Try.prog W 0 (fun _ => true) true Try.f4.params.toList args.toList ds p := hA0
  rw [Try.params4] at hA hval hsz
  obtain ⟨v0, vs0, d0, ds0, p0, q0, hargs, rfl, rfl, h0, r0⟩ := trodAll_cons hA
  obtain ⟨v1, vs1, d1, ds1, p1, q1, rfl, rfl, rfl, h1, r1⟩ := trodAll_cons r0
  obtain ⟨v2, vs2, d2, ds2, p2, q2, rfl, rfl, rfl, h2, r2⟩ := trodAll_cons r1
  obtain ⟨rfl, rfl, rfl⟩ := trodAll_nil r2
  obtain rfl : args = #[v0, v1, v2] := by cases args; simp_all
  obtain ⟨rfl, rfl⟩ := trodVars_none hV
  obtain ⟨a0, rfl, rfl, rfl, w0⟩ := open_string Try.underlying9 (hval 0 9 v0 rfl rfl) h0
  obtain ⟨a1, rfl, rfl, rfl, w1⟩ := open_string Try.underlying9 (hval 1 9 v1 rfl rfl) h1
  obtain ⟨a2, rfl, rfl, rfl, w2⟩ := open_int Try.underlying5 (hval 2 5 v2 rfl rfl) h2
  have z0 : a0.size ≤ 140737488351232 := by
    have := sized_string hsz (j := 0) (t := 9) rfl rfl
    rw [Go.Lib.size_eq]; exact this
  have z1 : a1.size ≤ 140737488351232 := by
    have := sized_string hsz (j := 1) (t := 9) rfl rfl
    rw [Go.Lib.size_eq]; exact this
  clear hA0 hval0
  simp only [List.append_nil] at hW'
  refine (walk a0 a1 a2 w0 w1 w2 z0 z1 W).mono fun e W' ⟨he, hg⟩ => ?_
  subst he
  exact ⟨_, rfl, post_plain hW' (fun _ _ _ => (trodAll_cons_mk (shut_bool Try.underlying4 _) trodAll_mk0)) (fun sp => (trodAll_cons_mk (shut_string Try.underlying9 w0) (trodAll_cons_mk (shut_string Try.underlying9 w1) (trodAll_cons_mk (shut_int Try.underlying5 w2) trodAll_mk0)))) (fun _ => rfl) hg (ok_one (by kernel_rfl) rfl (okWide_bool_mk Try.underlying4 _))⟩

theorem over : Rows.checkPartsRow.holds Try.pinned (OpenSpec.ofChange Rows.checkPartsSpec) :=
  OpenClaim.holds_of_wide 4 Try.f4 rfl rfl rfl rfl rfl rfl rfl ⟨rfl, rfl, rfl, rfl, rfl⟩ rfl rfl rfl rfl rfl (by kernel_rfl) Try.func4 (by kernel_rfl)
    (of_decide_eq_true (by kernel_rfl)) (by unfold Func.isWrapper; first | (rw [if_pos (by decide +kernel)]; kernel_rfl) | (rw [if_neg (by decide +kernel)]; exact ⟨rfl, rfl⟩))
    (fun os started H enc _ => lifted os started H enc)

theorem proved : Rows.CheckPartsSaid := over
#print axioms proved
end Go.Proofs.Ytnhkgialdnbohaa.checkParts
