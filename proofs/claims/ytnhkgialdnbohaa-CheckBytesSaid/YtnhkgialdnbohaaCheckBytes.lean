/- For every string the statement CheckBytes about check.ID and check.Value returns true, and changes nothing. Conditions: none. -/
import Derived.Test.YtnhkgialdnbohaaCheckF
import Derived.Test.YtnhkgialdnbohaaClass
import Derived.Test.YtnhkgialdnbohaaFrame
import Derived.Test.YtnhkgialdnbohaaFloatArg
import Derived.Laws.Cover2
import Derived.Deep.QuietTactic
import Derived.BigQuiet
import Derived.StillTailTactics
import Derived.WalkSmall
import Derived.Deep.DeepCutAuto
import Derived.Deep.RegionWith
import Derived.Deep.LoopGhost
import Derived.ProofKit
import Derived.OpenShut
import Derived.ShutString
import Derived.SizedLaws
namespace Go.Proofs.Ytnhkgialdnbohaa.checkBytes
open Go.ChangeShapes Go.WideShapes Go.ChangeAt Go.RowKit Go.Lib
open Go.ChangeMaps (open_string shut_string)
set_option linter.unusedVariables false

theorem own : ownKnob Try.prog.godebug = none := by kernel_rfl

open Flt

/-- So many letters x. -/
def xs (k : Nat) : ByteArray := ⟨(List.replicate k 120).toArray⟩
theorem xs_size (k : Nat) : (xs k).size = k := by unfold xs; simp [ByteArray.size]
theorem xs_snoc (k : Nat) : xs k ++ ⟨#[120]⟩ = xs (k + 1) := by
  apply ByteArray.ext
  rw [ByteArray.data_append]
  apply Array.toList_inj.1
  rw [Array.toList_append]
  unfold xs
  simp [List.replicate_succ']
theorem one_byte (S : ByteArray) (k : Nat) (h : k < S.size) : idB (S.extract k (k + 1)).data.toList = okc S[k].toNat := by
  have e : (S.extract k (k + 1)).data.toList = [S[k]] := by
    rw [Go.Lib.extract_data, show k + 1 - k = 1 by omega]
    have hl : k < S.data.toList.length := by rw [← Go.Lib.size_eq]; exact h
    rw [List.drop_eq_getElem_cons hl, List.take_succ_cons, List.take_zero]
    rfl
  rw [e]
  unfold idB
  rw [oks_cons, oks_nil, Bool.and_true]
  rfl
theorem id_and (S : ByteArray) : idB S.data.toList = (oks S.data.toList && decide ((1 : Int) ≤ S.size) && decide ((S.size : Int) ≤ 16)) := by
  have e := Go.Lib.size_eq S
  unfold idB
  rw [Bool.eq_iff_iff]
  simp only [Bool.and_eq_true, decide_eq_true_iff]
  constructor
  · rintro ⟨⟨a, b⟩, c⟩; exact ⟨⟨c, by omega⟩, by omega⟩
  · rintro ⟨⟨c, a⟩, b⟩; exact ⟨⟨by omega, by omega⟩, c⟩
theorem va_dec (n : Nat) : vaB n = decide ((n : Int) ≤ 64) := by
  unfold vaB
  rw [Bool.eq_iff_iff, decide_eq_true_iff, decide_eq_true_iff]; omega

set_option maxRecDepth 100000 in
set_option maxHeartbeats 4000000 in
theorem walk (a0 : ByteArray) (w0 : a0.size ≤ maxLen) (z0 : a0.size ≤ 140737488351232) (w : World) :
    Calls Try.prog 7 #[.string a0] w fun e w' => e = .returned (.bool true) ∧ Below w.heap.size w w' := by
  go_enter Try.func7, Try.ntmps7
  go_upto_region 1 with fail
  go_cut [0] (fun s0 wx => ∃ S : ByteArray, s0 = .string S ∧ S.size ≤ 100 ∧ w = wx)
  case first =>
    by_cases h : (a0.size : Int) ≤ 100
    · go_wp2_with fail
      go_meet
      exact ⟨a0, rfl, by omega, rfl⟩
    · go_wp2_with fail
      go_meet
      exact ⟨_, rfl, by rw [ByteArray.size_extract]; omega, rfl⟩
  case rest =>
  obtain ⟨S, rfl, hS, rfl⟩ := hcut
  have mS : S.size ≤ maxLen := by unfold maxLen; omega
  go_wp2_with fail
  go_loopg [3, 4, 5] S.size (fun gk s3 s4 s5 wr => ∃ k : Nat, k ≤ S.size ∧ gk = S.size - k ∧ s5 = .int .i64 k ∧ s3 = .bool (oks (S.data.toList.take k)) ∧ s4 = .string (xs k) ∧ w = wr)
  case atStart => exact ⟨0, Nat.zero_le _, rfl, rfl, rfl, rfl, rfl⟩
  case round =>
    obtain ⟨k, hk, hgk, rfl, rfl, rfl, rfl⟩ := hrel
    have HG := Lib.hid hgk
    clear hgk
    have xz := Lib.hid (xs_size k)
    have xq : (xs k).size ≤ 100 := by rw [xs_size]; omega
    by_cases hlt : k < S.size
    · have X := Lib.hid (xs_snoc k)
      have Q := Lib.hid (show oks (S.data.toList.take (k + 1)) = (oks (S.data.toList.take k) && okc S[k].toNat) by rw [take_snoc S k hlt, oks_snoc])
      cases ho : oks (S.data.toList.take k)
      · have Q' : Hid (oks (S.data.toList.take (k + 1)) = false) := Lib.hid (by rw [Q.out, ho]; rfl)
        clear Q ho
        generalize xs k = o at *
        go_wp2_with fail
        go_roundg (S.size - (k + 1))
        case measure => have := HG.out; omega
        case rel => exact ⟨k + 1, by omega, rfl, by go_num, by rw [Q'.out], by rw [X.out], rfl⟩
      · have Q' : Hid (oks (S.data.toList.take (k + 1)) = okc S[k].toNat) := Lib.hid (by rw [Q.out, ho]; rfl)
        have C := Lib.hid (fun w => id_is (S.extract k (k + 1)) (okc S[k].toNat) w (by rw [ByteArray.size_extract]; unfold maxLen; omega) (one_byte S k hlt))
        clear Q ho
        generalize okc S[k].toNat = b at *
        generalize xs k = o at *
        have hk1 : (k : Int) + 1 ≤ S.size := by omega
        have hk2 : k + 1 ≤ S.size := by omega
        go_wp2_with fail
        (with_reducible refine (C.out _).mono ?_)
        rintro e w0 ⟨rfl, rfl⟩
        go_wp2_with fail
        go_roundg (S.size - (k + 1))
        case measure => have := HG.out; omega
        case rel => exact ⟨k + 1, by omega, rfl, by go_num, by rw [Q'.out], by rw [X.out], rfl⟩
    · obtain rfl : k = S.size := by omega
      have I := id_and S
      rw [List.take_of_length_le (by rw [← Go.Lib.size_eq]; omega)]
      have C2 := Lib.hid (fun w => value_is S _ w mS (va_dec S.size))
      have C3 := Lib.hid (fun w => value_is (xs S.size) (decide ((S.size : Int) ≤ 64)) w (by rw [xs_size]; exact mS) (by rw [xs_size]; exact va_dec S.size))
      generalize xs S.size = o at *
      obtain ⟨v, hv⟩ : ∃ v, decide ((S.size : Int) ≤ 64) = v := ⟨_, rfl⟩
      rw [hv] at C2 C3
      generalize oks S.data.toList = E at *
      rcases (by cases E <;> cases decide ((1 : Int) ≤ S.size) <;> cases decide ((S.size : Int) ≤ 16) <;> simp : E = false ∨ (E = true ∧ decide ((1 : Int) ≤ S.size) = false) ∨ (E = true ∧ decide ((1 : Int) ≤ S.size) = true ∧ decide ((S.size : Int) ≤ 16) = false) ∨ (E = true ∧ decide ((1 : Int) ≤ S.size) = true ∧ decide ((S.size : Int) ≤ 16) = true)) with rfl | ⟨rfl, p⟩ | ⟨rfl, p, q⟩ | ⟨rfl, p, q⟩
      · have C1 := Lib.hid (fun w => id_is S false w mS (by rw [I]; rfl))
        clear I xz HG
        go_wp2_with fail
        (with_reducible refine (C1.out _).mono ?_)
        rintro e w0 ⟨rfl, rfl⟩
        go_wp2_with fail
        (with_reducible refine (C2.out _).mono ?_)
        rintro e w0 ⟨rfl, rfl⟩
        go_wp2_with fail
        (with_reducible refine (C3.out _).mono ?_)
        rintro e w0 ⟨rfl, rfl⟩
        go_wp2_with fail
        (with_reducible refine (C2.out _).mono ?_)
        rintro e w0 ⟨rfl, rfl⟩
        go_wp2_with fail
        refine (fixed_any _).mono ?_
        rintro e w1 ⟨rfl, hB⟩
        go_wp2_with fail
        go_ret
        exact ⟨rfl, hB⟩
      · have C1 := Lib.hid (fun w => id_is S false w mS (by rw [I, p]; rfl))
        clear I xz HG
        go_wp2_with fail
        (with_reducible refine (C1.out _).mono ?_)
        rintro e w0 ⟨rfl, rfl⟩
        go_wp2_with fail
        (with_reducible refine (C2.out _).mono ?_)
        rintro e w0 ⟨rfl, rfl⟩
        go_wp2_with fail
        (with_reducible refine (C3.out _).mono ?_)
        rintro e w0 ⟨rfl, rfl⟩
        go_wp2_with fail
        (with_reducible refine (C2.out _).mono ?_)
        rintro e w0 ⟨rfl, rfl⟩
        go_wp2_with fail
        refine (fixed_any _).mono ?_
        rintro e w1 ⟨rfl, hB⟩
        go_wp2_with fail
        go_ret
        exact ⟨rfl, hB⟩
      · have C1 := Lib.hid (fun w => id_is S false w mS (by rw [I, p, q]; rfl))
        clear I xz HG
        go_wp2_with fail
        (with_reducible refine (C1.out _).mono ?_)
        rintro e w0 ⟨rfl, rfl⟩
        go_wp2_with fail
        (with_reducible refine (C2.out _).mono ?_)
        rintro e w0 ⟨rfl, rfl⟩
        go_wp2_with fail
        (with_reducible refine (C3.out _).mono ?_)
        rintro e w0 ⟨rfl, rfl⟩
        go_wp2_with fail
        (with_reducible refine (C2.out _).mono ?_)
        rintro e w0 ⟨rfl, rfl⟩
        go_wp2_with fail
        refine (fixed_any _).mono ?_
        rintro e w1 ⟨rfl, hB⟩
        go_wp2_with fail
        go_ret
        exact ⟨rfl, hB⟩
      · have C1 := Lib.hid (fun w => id_is S true w mS (by rw [I, p, q]; rfl))
        clear I xz HG
        go_wp2_with fail
        (with_reducible refine (C1.out _).mono ?_)
        rintro e w0 ⟨rfl, rfl⟩
        go_wp2_with fail
        (with_reducible refine (C2.out _).mono ?_)
        rintro e w0 ⟨rfl, rfl⟩
        go_wp2_with fail
        (with_reducible refine (C3.out _).mono ?_)
        rintro e w0 ⟨rfl, rfl⟩
        go_wp2_with fail
        (with_reducible refine (C2.out _).mono ?_)
        rintro e w0 ⟨rfl, rfl⟩
        go_wp2_with fail
        refine (fixed_any _).mono ?_
        rintro e w1 ⟨rfl, hB⟩
        go_wp2_with fail
        go_ret
        exact ⟨rfl, hB⟩

set_option maxRecDepth 100000 in
theorem lifted (os : Os) (started : os.Started) (H : Type) (enc : TypeId × Value → H) :
    ReturnsInHanded {} Try.checked os 7 .any (Rows.checkBytesSpec.pre6 enc Try.prog Try.f7 Rows.checkBytesRow.domain false) (Rows.checkBytesSpec.post enc Try.prog Try.f7 false true false false) := by
  refine returnsInHanded_of_change_sized (C := Try.checked) own started (by kernel_rfl) Try.func7
    (ChangeSpec.witness6 (enc := enc) (C := Try.checked) false ⟨#[], #[.string ByteArray.empty], []⟩ 8 (by kernel_rfl) (by kernel_rfl) (by kernel_rfl) (by kernel_rfl)) ?_
  intro W base args ds gs before hval0 hW hcnd hsz0 _
  have hsz : (DataW.weightsEach Try.prog (Try.f7.params.toList ++ Rows.checkBytesSpec.plain.varTypes Try.prog) (ds ++ gs)).all (· ≤ reachBytes) = true := hsz0
  clear hsz0
  have hval : ∀ (j : Nat) t v, Try.f7.params[j]? = some t → args[j]? = some v → Value.okWide Try.prog W .any base t v := hval0
  have hW' := hW
  obtain ⟨p, q, hA0, hV, rfl, hfz, hnd⟩ := hW
  have hA : DataW.TrodAll enc Try.prog W 0 (fun _ => true) true Try.f7.params.toList args.toList ds p := hA0
  rw [Try.params7] at hA hval hsz
  obtain ⟨v0, vs0, d0, ds0, p0, q0, hargs, rfl, rfl, h0, r0⟩ := trodAll_cons hA
  obtain ⟨rfl, rfl, rfl⟩ := trodAll_nil r0
  obtain rfl : args = #[v0] := by cases args; simp_all
  obtain ⟨rfl, rfl⟩ := trodVars_none hV
  obtain ⟨a0, rfl, rfl, rfl, w0⟩ := open_string Try.underlying9 (hval 0 9 v0 rfl rfl) h0
  have z0 : a0.size ≤ 140737488351232 := by
    have := sized_string hsz (j := 0) (t := 9) rfl rfl
    rw [Go.Lib.size_eq]; exact this
  clear hA0 hval0
  simp only [List.append_nil] at hW'
  refine (walk a0 w0 z0 W).mono fun e W' ⟨he, hg⟩ => ?_
  subst he
  exact ⟨_, rfl, post_plain hW' (fun _ _ _ => (trodAll_cons_mk (shut_bool Try.underlying4 _) trodAll_mk0)) (fun sp => (trodAll_cons_mk (shut_string Try.underlying9 w0) trodAll_mk0)) (fun _ => rfl) hg (ok_one (by kernel_rfl) rfl (okWide_bool_mk Try.underlying4 _))⟩

theorem over : Rows.checkBytesRow.holds Try.pinned (OpenSpec.ofChange Rows.checkBytesSpec) :=
  OpenClaim.holds_of_wide 7 Try.f7 rfl rfl rfl rfl rfl rfl rfl ⟨rfl, rfl, rfl, rfl, rfl⟩ rfl rfl rfl rfl rfl (by kernel_rfl) Try.func7 (by kernel_rfl)
    (of_decide_eq_true (by kernel_rfl)) (by unfold Func.isWrapper; first | (rw [if_pos (by decide +kernel)]; kernel_rfl) | (rw [if_neg (by decide +kernel)]; exact ⟨rfl, rfl⟩))
    (fun os started H enc _ => lifted os started H enc)

theorem proved : Rows.CheckBytesSaid := over
#print axioms proved
end Go.Proofs.Ytnhkgialdnbohaa.checkBytes
