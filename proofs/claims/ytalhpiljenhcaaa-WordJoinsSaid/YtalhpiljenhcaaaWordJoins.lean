/- For every two numbers a and b the statement WordJoins about word.Put and word.Get returns true, and changes nothing that was there. Conditions: none. -/
import Derived.Test.YtalhpiljenhcaaaWordF
import Derived.Test.YtalhpiljenhcaaaFrame
import Derived.Deep.QuietTactic
import Derived.BigQuiet
import Derived.StillTailTactics
import Derived.WalkSmall
import Derived.Deep.DeepCutAuto
import Derived.Deep.RegionWith
import Derived.Deep.LoopGhost
import Derived.ProofKit
import Derived.OpenShut
import Derived.ShutString
import Derived.SizedLaws
namespace Go.Proofs.Ytalhpiljenhcaaa.wordJoins
open Go.ChangeShapes Go.WideShapes Go.ChangeAt Go.RowKit Go.Lib
open Go.ChangeMaps (open_string shut_string)
set_option linter.unusedVariables false

theorem own : ownKnob Try.prog.godebug = none := by kernel_rfl

theorem cl4 : clampN 4 = 4 := rfl

theorem join1 (a b : Int) (ha : 0 ≤ a) (hb : 0 ≤ b) : (getN ((⟨(putL a.toNat (clampN 4)).toArray⟩ : ByteArray) ++ (⟨(putL b.toNat (clampN 4)).toArray⟩ : ByteArray)).data.toList : Int) = a % 4294967296 + b % 4294967296 * 4294967296 := by
  rw [ByteArray.data_append, Array.toList_append, toL, toL, cl4]
  unfold getN
  rw [List.take_of_length_le (by rw [List.length_append, putL_length, putL_length]; omega), leN_append, leN_putL, leN_putL, putL_length]
  omega
theorem join2 (a : Int) (ha : 0 ≤ a) : (getN ((⟨(putL a.toNat (clampN 4)).toArray⟩ : ByteArray) ++ (⟨#[0, 0]⟩ : ByteArray)).data.toList : Int) = a % 4294967296 := by
  rw [ByteArray.data_append, Array.toList_append, toL, cl4]
  unfold getN
  rw [List.take_of_length_le (by rw [List.length_append, putL_length]; simp), leN_append, leN_putL, putL_length]
  have e : leN (#[(0 : UInt8), 0] : Array UInt8).toList = 0 := rfl
  rw [e]
  omega
theorem join3 (b : Int) (hb : 0 ≤ b) : (getN ((⟨#[0, 0, 0, 0]⟩ : ByteArray) ++ (⟨(putL b.toNat (clampN 4)).toArray⟩ : ByteArray)).data.toList : Int) = b % 4294967296 * 4294967296 := by
  rw [ByteArray.data_append, Array.toList_append, toL, cl4]
  unfold getN
  rw [List.take_of_length_le (by rw [List.length_append, putL_length]; simp), leN_append, leN_putL]
  have e : leN (#[(0 : UInt8), 0, 0, 0] : Array UInt8).toList = 0 := rfl
  have e2 : (#[(0 : UInt8), 0, 0, 0] : Array UInt8).toList.length = 4 := rfl
  rw [e, e2]
  omega

set_option maxHeartbeats 1000000 in
theorem walk (a0 a1 : Int) (w0 : (Lit.int .u64 a0).wf = true) (w1 : (Lit.int .u64 a1).wf = true) (w : World) :
    Calls Try.prog 8 #[.int .u64 a0, .int .u64 a1] w fun e w' => e = .returned (.bool true) ∧ Below w.heap.size w w' := by
  obtain ⟨ba0, ba1⟩ := bounds_u64 w0
  obtain ⟨bb0, bb1⟩ := bounds_u64 w1
  clear w0 w1
  have J1 := Lib.hid (join1 a0 a1 ba0 bb0)
  have J2 := Lib.hid (join2 a0 ba0)
  have J3 := Lib.hid (join3 a1 bb0)
  obtain ⟨r, R⟩ : ∃ r, Hid ((⟨(putL a0.toNat (clampN 4)).toArray⟩ : ByteArray) = r) := ⟨_, rfl⟩
  obtain ⟨t, T⟩ : ∃ t, Hid ((⟨(putL a1.toNat (clampN 4)).toArray⟩ : ByteArray) = t) := ⟨_, rfl⟩
  have zr : r.size ≤ 8 := by rw [← R.out, put_size]; decide
  have zt : t.size ≤ 8 := by rw [← T.out, put_size]; decide
  rw [R.out, T.out] at J1
  rw [R.out] at J2
  rw [T.out] at J3
  go_enter Try.func8, Try.ntmps8
  go_wp2_with fail
  refine (put_at a0 4 r _ ba0 (by omega) R.out).mono ?_
  rintro e w1 ⟨rfl, h1⟩
  go_wp2_with fail
  refine (put_at a1 4 t _ bb0 (by omega) T.out).mono ?_
  rintro e w2 ⟨rfl, h2⟩
  go_wp2_with fail
  refine (get_at _ _ _ J1.out).mono ?_
  rintro e w3 ⟨rfl, h3⟩
  go_wp2_with fail
  refine (put_at a0 4 r _ ba0 (by omega) R.out).mono ?_
  rintro e w4 ⟨rfl, h4⟩
  go_wp2_with fail
  refine (get_at _ _ _ J2.out).mono ?_
  rintro e w5 ⟨rfl, h5⟩
  go_wp2_with fail
  refine (put_at a1 4 t _ bb0 (by omega) T.out).mono ?_
  rintro e w6 ⟨rfl, h6⟩
  go_wp2_with fail
  refine (get_at _ _ _ J3.out).mono ?_
  rintro e w7 ⟨rfl, h7⟩
  go_wp2_with fail
  refine (fixed_any _).mono ?_
  rintro e w8 ⟨rfl, h8⟩
  go_wp2_with fail
  go_ret
  exact ⟨rfl, Ge.trans h1 (Ge.trans h2 (Ge.trans h3 (Ge.trans h4 (Ge.trans h5 (Ge.trans h6 (Ge.trans h7 h8))))))⟩

set_option maxRecDepth 100000 in
theorem lifted (os : Os) (started : os.Started) (H : Type) (enc : TypeId × Value → H) :
    ReturnsInHanded {} Try.checked os 8 .any (Rows.wordJoinsSpec.pre6 enc Try.prog Try.f8 Rows.wordJoinsRow.domain false) (Rows.wordJoinsSpec.post enc Try.prog Try.f8 false true false false) := by
  refine returnsInHanded_of_change (C := Try.checked) own started (by kernel_rfl) Try.func8
    (ChangeSpec.witness6 (enc := enc) (C := Try.checked) false ⟨#[], #[.int .u64 0, .int .u64 0], []⟩ 8 (by kernel_rfl) (by kernel_rfl) (by kernel_rfl) (by kernel_rfl)) ?_
  intro W base args ds gs before hval0 hW hcnd _
  have hval : ∀ (j : Nat) t v, Try.f8.params[j]? = some t → args[j]? = some v → Value.okWide Try.prog W .any base t v := hval0
  have hW' := hW
  obtain ⟨p, q, hA0, hV, rfl, hfz, hnd⟩ := hW
  have hA : DataW.TrodAll enc Try.prog W 0 (fun _ => true) true Try.f8.params.toList args.toList ds p := hA0
  rw [Try.params8] at hA hval
  obtain ⟨v0, vs0, d0, ds0, p0, q0, hargs, rfl, rfl, h0, r0⟩ := trodAll_cons hA
  obtain ⟨v1, vs1, d1, ds1, p1, q1, rfl, rfl, rfl, h1, r1⟩ := trodAll_cons r0
  obtain ⟨rfl, rfl, rfl⟩ := trodAll_nil r1
  obtain rfl : args = #[v0, v1] := by cases args; simp_all
  obtain ⟨rfl, rfl⟩ := trodVars_none hV
  obtain ⟨a0, rfl, rfl, rfl, w0⟩ := open_int Try.underlying22 (hval 0 22 v0 rfl rfl) h0
  obtain ⟨a1, rfl, rfl, rfl, w1⟩ := open_int Try.underlying22 (hval 1 22 v1 rfl rfl) h1
  clear hA0 hval0
  simp only [List.append_nil] at hW'
  refine (walk a0 a1 w0 w1 W).mono fun e W' ⟨he, hg⟩ => ?_
  subst he
  exact ⟨_, rfl, post_plain hW' (fun _ _ _ => (trodAll_cons_mk (shut_bool Try.underlying4 _) trodAll_mk0)) (fun sp => (trodAll_cons_mk (shut_int Try.underlying22 w0) (trodAll_cons_mk (shut_int Try.underlying22 w1) trodAll_mk0))) (fun _ => rfl) hg (ok_one (by kernel_rfl) rfl (okWide_bool_mk Try.underlying4 _))⟩

theorem over : Rows.wordJoinsRow.holds Try.pinned (OpenSpec.ofChange Rows.wordJoinsSpec) :=
  OpenClaim.holds_of_wide 8 Try.f8 rfl rfl rfl rfl rfl rfl rfl ⟨rfl, rfl, rfl, rfl, rfl⟩ rfl rfl rfl rfl rfl (by kernel_rfl) Try.func8 (by kernel_rfl)
    (of_decide_eq_true (by kernel_rfl)) (by unfold Func.isWrapper; first | (rw [if_pos (by decide +kernel)]; kernel_rfl) | (rw [if_neg (by decide +kernel)]; exact ⟨rfl, rfl⟩))
    (fun os started H enc _ => lifted os started H enc)

theorem proved : Rows.WordJoinsSaid := over
#print axioms proved
end Go.Proofs.Ytalhpiljenhcaaa.wordJoins
