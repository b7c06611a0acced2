/- For every two numbers a, b and every c below 256 the statement WordProducts about word.Mul and word.Add returns true, and changes nothing. Conditions: none. -/
import Derived.Test.YtalhpiljenhcaaaWordF
import Derived.Test.YtalhpiljenhcaaaFrame
import Derived.Deep.QuietTactic
import Derived.BigQuiet
import Derived.StillTailTactics
import Derived.WalkSmall
import Derived.Deep.DeepCutAuto
import Derived.Deep.RegionWith
import Derived.Deep.LoopGhost
import Derived.ProofKit
import Derived.OpenShut
import Derived.ShutString
import Derived.SizedLaws
namespace Go.Proofs.Ytalhpiljenhcaaa.wordProducts
open Go.ChangeShapes Go.WideShapes Go.ChangeAt Go.RowKit Go.Lib
open Go.ChangeMaps (open_string shut_string)
set_option linter.unusedVariables false

theorem own : ownKnob Try.prog.godebug = none := by kernel_rfl

set_option maxHeartbeats 1000000 in
theorem part_sb (a0 a1 a2 : Int) (w : World) (ba0 : 0 ≤ a0) (ba1 : a0 ≤ 18446744073709551615) (bb0 : 0 ≤ a1) (bb1 : a1 ≤ 18446744073709551615) (bc0 : 0 ≤ a2) (bc1 : a2 ≤ 255) (hd : a0 * a1 < 18446744073709551616) (hf : 18446744073709551616 ≤ a0 * a2) :
    Calls Try.prog 6 #[.int .u64 a0, .int .u64 a1, .int .u8 a2] w fun e w' => e = .returned (.bool true) ∧ Below w.heap.size w w' := by
  have hcomm : a1 * a0 = a0 * a1 := Int.mul_comm _ _
  have hdist : a0 * (a2 + 1) = a0 * a2 + a0 := by rw [Int.mul_add, Int.mul_one]
  obtain ⟨d, D⟩ : ∃ d, Hid (a0 * a1 = d) := ⟨_, rfl⟩
  have D' : Hid (a1 * a0 = d) := by show a1 * a0 = d; rw [hcomm]; exact D.out
  have d1 : d < 18446744073709551616 := by rw [← D.out]; exact hd
  have p0 : 0 < a0 := by
    rcases Int.lt_or_eq_of_le ba0 with h | h
    · exact h
    · rw [← h, Int.zero_mul] at hf; omega
  have F : Hid (18446744073709551616 ≤ a0 * a2) := hf
  have G : Hid (18446744073709551616 ≤ a0 * (a2 + 1)) := by show _ ≤ a0 * (a2 + 1); rw [hdist]; omega
  clear hf
  clear hcomm hdist hd
  go_enter Try.func6, Try.ntmps6
  go_wp2_with fail
  refine (mul_is a0 a1 d _ ba0 bb0 (by omega) (by omega) D.out d1).mono ?_
  rintro e w' ⟨rfl, rfl⟩
  go_wp2_with fail
  refine (mul_is a1 a0 d _ bb0 ba0 (by omega) (by omega) D'.out d1).mono ?_
  rintro e w' ⟨rfl, rfl⟩
  go_wp2_with fail
  refine (mul_over a0 a2 _ ba0 bc0 (by omega) (by omega) F.out).mono ?_
  rintro e w' ⟨rfl, rfl⟩
  go_wp2_with fail
  refine (mul_over a0 (a2 + 1) _ ba0 (by omega) (by omega) (by omega) G.out).mono ?_
  rintro e w' ⟨rfl, rfl⟩
  go_wp2_with fail
  refine (add_big 18446744073709551615 a0 _ (by omega) ba0 (by omega) (by omega) (by omega)).mono ?_
  rintro e w' ⟨rfl, rfl⟩
  go_wp2_with fail
  refine (fixed_any _).mono ?_
  rintro e w' ⟨rfl, hb⟩
  go_wp2_with fail
  go_ret
  exact ⟨rfl, hb⟩

set_option maxHeartbeats 1000000 in
theorem part_ss (a0 a1 a2 : Int) (w : World) (ba0 : 0 ≤ a0) (ba1 : a0 ≤ 18446744073709551615) (bb0 : 0 ≤ a1) (bb1 : a1 ≤ 18446744073709551615) (bc0 : 0 ≤ a2) (bc1 : a2 ≤ 255) (hd : a0 * a1 < 18446744073709551616) (hg : a0 * a2 + a0 < 18446744073709551616) :
    Calls Try.prog 6 #[.int .u64 a0, .int .u64 a1, .int .u8 a2] w fun e w' => e = .returned (.bool true) ∧ Below w.heap.size w w' := by
  have hcomm : a1 * a0 = a0 * a1 := Int.mul_comm _ _
  have hdist : a0 * (a2 + 1) = a0 * a2 + a0 := by rw [Int.mul_add, Int.mul_one]
  obtain ⟨d, D⟩ : ∃ d, Hid (a0 * a1 = d) := ⟨_, rfl⟩
  have D' : Hid (a1 * a0 = d) := by show a1 * a0 = d; rw [hcomm]; exact D.out
  have d1 : d < 18446744073709551616 := by rw [← D.out]; exact hd
  have f00 : 0 ≤ a0 * a2 := Int.mul_nonneg ba0 bc0
  obtain ⟨f, F⟩ : ∃ f, Hid (a0 * a2 = f) := ⟨_, rfl⟩
  obtain ⟨g, G⟩ : ∃ g, Hid (a0 * (a2 + 1) = g) := ⟨_, rfl⟩
  have J : Hid (f + a0 = g) := by show f + a0 = g; rw [← F.out, ← G.out, hdist]
  have f0 : 0 ≤ f := by rw [← F.out]; exact f00
  have g1 : g < 18446744073709551616 := by rw [← G.out, hdist]; exact hg
  have f1 : f < 18446744073709551616 := by have := J.out; omega
  have fg : f ≤ g := by have := J.out; omega
  clear hg f00
  clear hcomm hdist hd
  go_enter Try.func6, Try.ntmps6
  go_wp2_with fail
  refine (mul_is a0 a1 d _ ba0 bb0 (by omega) (by omega) D.out d1).mono ?_
  rintro e w' ⟨rfl, rfl⟩
  go_wp2_with fail
  refine (mul_is a1 a0 d _ bb0 ba0 (by omega) (by omega) D'.out d1).mono ?_
  rintro e w' ⟨rfl, rfl⟩
  go_wp2_with fail
  refine (mul_is a0 a2 f _ ba0 bc0 (by omega) (by omega) F.out f1).mono ?_
  rintro e w' ⟨rfl, rfl⟩
  go_wp2_with fail
  refine (mul_is a0 (a2 + 1) g _ ba0 (by omega) (by omega) (by omega) G.out g1).mono ?_
  rintro e w' ⟨rfl, rfl⟩
  go_wp2_with fail
  refine (add_is f a0 g _ f0 ba0 J.out g1).mono ?_
  rintro e w' ⟨rfl, rfl⟩
  go_wp2_with fail
  refine (fixed_any _).mono ?_
  rintro e w' ⟨rfl, hb⟩
  go_wp2_with fail
  go_ret
  exact ⟨rfl, hb⟩

set_option maxHeartbeats 1000000 in
theorem part_sm (a0 a1 a2 : Int) (w : World) (ba0 : 0 ≤ a0) (ba1 : a0 ≤ 18446744073709551615) (bb0 : 0 ≤ a1) (bb1 : a1 ≤ 18446744073709551615) (bc0 : 0 ≤ a2) (bc1 : a2 ≤ 255) (hd : a0 * a1 < 18446744073709551616) (hf : a0 * a2 < 18446744073709551616) (hg : 18446744073709551616 ≤ a0 * a2 + a0) :
    Calls Try.prog 6 #[.int .u64 a0, .int .u64 a1, .int .u8 a2] w fun e w' => e = .returned (.bool true) ∧ Below w.heap.size w w' := by
  have hcomm : a1 * a0 = a0 * a1 := Int.mul_comm _ _
  have hdist : a0 * (a2 + 1) = a0 * a2 + a0 := by rw [Int.mul_add, Int.mul_one]
  obtain ⟨d, D⟩ : ∃ d, Hid (a0 * a1 = d) := ⟨_, rfl⟩
  have D' : Hid (a1 * a0 = d) := by show a1 * a0 = d; rw [hcomm]; exact D.out
  have d1 : d < 18446744073709551616 := by rw [← D.out]; exact hd
  have f00 : 0 ≤ a0 * a2 := Int.mul_nonneg ba0 bc0
  obtain ⟨f, F⟩ : ∃ f, Hid (a0 * a2 = f) := ⟨_, rfl⟩
  have G : Hid (18446744073709551616 ≤ a0 * (a2 + 1)) := by show _ ≤ a0 * (a2 + 1); rw [hdist]; exact hg
  have f0 : 0 ≤ f := by rw [← F.out]; exact f00
  have f1 : f < 18446744073709551616 := by rw [← F.out]; exact hf
  have f2 : 18446744073709551616 ≤ f + a0 := by rw [← F.out]; exact hg
  have f3 : f ≤ 18446744073709551615 := by omega
  clear hf hg f00
  clear hcomm hdist hd
  go_enter Try.func6, Try.ntmps6
  go_wp2_with fail
  refine (mul_is a0 a1 d _ ba0 bb0 (by omega) (by omega) D.out d1).mono ?_
  rintro e w' ⟨rfl, rfl⟩
  go_wp2_with fail
  refine (mul_is a1 a0 d _ bb0 ba0 (by omega) (by omega) D'.out d1).mono ?_
  rintro e w' ⟨rfl, rfl⟩
  go_wp2_with fail
  refine (mul_is a0 a2 f _ ba0 bc0 (by omega) (by omega) F.out f1).mono ?_
  rintro e w' ⟨rfl, rfl⟩
  go_wp2_with fail
  refine (mul_over a0 (a2 + 1) _ ba0 (by omega) (by omega) (by omega) G.out).mono ?_
  rintro e w' ⟨rfl, rfl⟩
  go_wp2_with fail
  refine (add_big f a0 _ f0 ba0 (by omega) (by omega) (by omega)).mono ?_
  rintro e w' ⟨rfl, rfl⟩
  go_wp2_with fail
  refine (fixed_any _).mono ?_
  rintro e w' ⟨rfl, hb⟩
  go_wp2_with fail
  go_ret
  exact ⟨rfl, hb⟩

set_option maxHeartbeats 1000000 in
theorem part_bb (a0 a1 a2 : Int) (w : World) (ba0 : 0 ≤ a0) (ba1 : a0 ≤ 18446744073709551615) (bb0 : 0 ≤ a1) (bb1 : a1 ≤ 18446744073709551615) (bc0 : 0 ≤ a2) (bc1 : a2 ≤ 255) (hd : 18446744073709551616 ≤ a0 * a1) (hf : 18446744073709551616 ≤ a0 * a2) :
    Calls Try.prog 6 #[.int .u64 a0, .int .u64 a1, .int .u8 a2] w fun e w' => e = .returned (.bool true) ∧ Below w.heap.size w w' := by
  have hcomm : a1 * a0 = a0 * a1 := Int.mul_comm _ _
  have hdist : a0 * (a2 + 1) = a0 * a2 + a0 := by rw [Int.mul_add, Int.mul_one]
  have D : Hid (18446744073709551616 ≤ a0 * a1) := hd
  have D' : Hid (18446744073709551616 ≤ a1 * a0) := by show _ ≤ a1 * a0; rw [hcomm]; exact hd
  have p0 : 0 < a0 := by
    rcases Int.lt_or_eq_of_le ba0 with h | h
    · exact h
    · rw [← h, Int.zero_mul] at hf; omega
  have F : Hid (18446744073709551616 ≤ a0 * a2) := hf
  have G : Hid (18446744073709551616 ≤ a0 * (a2 + 1)) := by show _ ≤ a0 * (a2 + 1); rw [hdist]; omega
  clear hf
  clear hcomm hdist hd
  go_enter Try.func6, Try.ntmps6
  go_wp2_with fail
  refine (mul_over a0 a1 _ ba0 bb0 (by omega) (by omega) D.out).mono ?_
  rintro e w' ⟨rfl, rfl⟩
  go_wp2_with fail
  refine (mul_over a1 a0 _ bb0 ba0 (by omega) (by omega) D'.out).mono ?_
  rintro e w' ⟨rfl, rfl⟩
  go_wp2_with fail
  refine (mul_over a0 a2 _ ba0 bc0 (by omega) (by omega) F.out).mono ?_
  rintro e w' ⟨rfl, rfl⟩
  go_wp2_with fail
  refine (mul_over a0 (a2 + 1) _ ba0 (by omega) (by omega) (by omega) G.out).mono ?_
  rintro e w' ⟨rfl, rfl⟩
  go_wp2_with fail
  refine (add_big 18446744073709551615 a0 _ (by omega) ba0 (by omega) (by omega) (by omega)).mono ?_
  rintro e w' ⟨rfl, rfl⟩
  go_wp2_with fail
  refine (fixed_any _).mono ?_
  rintro e w' ⟨rfl, hb⟩
  go_wp2_with fail
  go_ret
  exact ⟨rfl, hb⟩

set_option maxHeartbeats 1000000 in
theorem part_bs (a0 a1 a2 : Int) (w : World) (ba0 : 0 ≤ a0) (ba1 : a0 ≤ 18446744073709551615) (bb0 : 0 ≤ a1) (bb1 : a1 ≤ 18446744073709551615) (bc0 : 0 ≤ a2) (bc1 : a2 ≤ 255) (hd : 18446744073709551616 ≤ a0 * a1) (hg : a0 * a2 + a0 < 18446744073709551616) :
    Calls Try.prog 6 #[.int .u64 a0, .int .u64 a1, .int .u8 a2] w fun e w' => e = .returned (.bool true) ∧ Below w.heap.size w w' := by
  have hcomm : a1 * a0 = a0 * a1 := Int.mul_comm _ _
  have hdist : a0 * (a2 + 1) = a0 * a2 + a0 := by rw [Int.mul_add, Int.mul_one]
  have D : Hid (18446744073709551616 ≤ a0 * a1) := hd
  have D' : Hid (18446744073709551616 ≤ a1 * a0) := by show _ ≤ a1 * a0; rw [hcomm]; exact hd
  have f00 : 0 ≤ a0 * a2 := Int.mul_nonneg ba0 bc0
  obtain ⟨f, F⟩ : ∃ f, Hid (a0 * a2 = f) := ⟨_, rfl⟩
  obtain ⟨g, G⟩ : ∃ g, Hid (a0 * (a2 + 1) = g) := ⟨_, rfl⟩
  have J : Hid (f + a0 = g) := by show f + a0 = g; rw [← F.out, ← G.out, hdist]
  have f0 : 0 ≤ f := by rw [← F.out]; exact f00
  have g1 : g < 18446744073709551616 := by rw [← G.out, hdist]; exact hg
  have f1 : f < 18446744073709551616 := by have := J.out; omega
  have fg : f ≤ g := by have := J.out; omega
  clear hg f00
  clear hcomm hdist hd
  go_enter Try.func6, Try.ntmps6
  go_wp2_with fail
  refine (mul_over a0 a1 _ ba0 bb0 (by omega) (by omega) D.out).mono ?_
  rintro e w' ⟨rfl, rfl⟩
  go_wp2_with fail
  refine (mul_over a1 a0 _ bb0 ba0 (by omega) (by omega) D'.out).mono ?_
  rintro e w' ⟨rfl, rfl⟩
  go_wp2_with fail
  refine (mul_is a0 a2 f _ ba0 bc0 (by omega) (by omega) F.out f1).mono ?_
  rintro e w' ⟨rfl, rfl⟩
  go_wp2_with fail
  refine (mul_is a0 (a2 + 1) g _ ba0 (by omega) (by omega) (by omega) G.out g1).mono ?_
  rintro e w' ⟨rfl, rfl⟩
  go_wp2_with fail
  refine (add_is f a0 g _ f0 ba0 J.out g1).mono ?_
  rintro e w' ⟨rfl, rfl⟩
  go_wp2_with fail
  refine (fixed_any _).mono ?_
  rintro e w' ⟨rfl, hb⟩
  go_wp2_with fail
  go_ret
  exact ⟨rfl, hb⟩

set_option maxHeartbeats 1000000 in
theorem part_bm (a0 a1 a2 : Int) (w : World) (ba0 : 0 ≤ a0) (ba1 : a0 ≤ 18446744073709551615) (bb0 : 0 ≤ a1) (bb1 : a1 ≤ 18446744073709551615) (bc0 : 0 ≤ a2) (bc1 : a2 ≤ 255) (hd : 18446744073709551616 ≤ a0 * a1) (hf : a0 * a2 < 18446744073709551616) (hg : 18446744073709551616 ≤ a0 * a2 + a0) :
    Calls Try.prog 6 #[.int .u64 a0, .int .u64 a1, .int .u8 a2] w fun e w' => e = .returned (.bool true) ∧ Below w.heap.size w w' := by
  have hcomm : a1 * a0 = a0 * a1 := Int.mul_comm _ _
  have hdist : a0 * (a2 + 1) = a0 * a2 + a0 := by rw [Int.mul_add, Int.mul_one]
  have D : Hid (18446744073709551616 ≤ a0 * a1) := hd
  have D' : Hid (18446744073709551616 ≤ a1 * a0) := by show _ ≤ a1 * a0; rw [hcomm]; exact hd
  have f00 : 0 ≤ a0 * a2 := Int.mul_nonneg ba0 bc0
  obtain ⟨f, F⟩ : ∃ f, Hid (a0 * a2 = f) := ⟨_, rfl⟩
  have G : Hid (18446744073709551616 ≤ a0 * (a2 + 1)) := by show _ ≤ a0 * (a2 + 1); rw [hdist]; exact hg
  have f0 : 0 ≤ f := by rw [← F.out]; exact f00
  have f1 : f < 18446744073709551616 := by rw [← F.out]; exact hf
  have f2 : 18446744073709551616 ≤ f + a0 := by rw [← F.out]; exact hg
  have f3 : f ≤ 18446744073709551615 := by omega
  clear hf hg f00
  clear hcomm hdist hd
  go_enter Try.func6, Try.ntmps6
  go_wp2_with fail
  refine (mul_over a0 a1 _ ba0 bb0 (by omega) (by omega) D.out).mono ?_
  rintro e w' ⟨rfl, rfl⟩
  go_wp2_with fail
  refine (mul_over a1 a0 _ bb0 ba0 (by omega) (by omega) D'.out).mono ?_
  rintro e w' ⟨rfl, rfl⟩
  go_wp2_with fail
  refine (mul_is a0 a2 f _ ba0 bc0 (by omega) (by omega) F.out f1).mono ?_
  rintro e w' ⟨rfl, rfl⟩
  go_wp2_with fail
  refine (mul_over a0 (a2 + 1) _ ba0 (by omega) (by omega) (by omega) G.out).mono ?_
  rintro e w' ⟨rfl, rfl⟩
  go_wp2_with fail
  refine (add_big f a0 _ f0 ba0 (by omega) (by omega) (by omega)).mono ?_
  rintro e w' ⟨rfl, rfl⟩
  go_wp2_with fail
  refine (fixed_any _).mono ?_
  rintro e w' ⟨rfl, hb⟩
  go_wp2_with fail
  go_ret
  exact ⟨rfl, hb⟩

set_option maxHeartbeats 1000000 in
theorem walk (a0 a1 a2 : Int) (w0 : (Lit.int .u64 a0).wf = true) (w1 : (Lit.int .u64 a1).wf = true) (w2 : (Lit.int .u8 a2).wf = true) (w : World) :
    Calls Try.prog 6 #[.int .u64 a0, .int .u64 a1, .int .u8 a2] w fun e w' => e = .returned (.bool true) ∧ Below w.heap.size w w' := by
  obtain ⟨ba0, ba1⟩ := bounds_u64 w0
  obtain ⟨bb0, bb1⟩ := bounds_u64 w1
  obtain ⟨bc0, bc1⟩ := bounds_u8 w2
  by_cases hd : a0 * a1 < 18446744073709551616
  · by_cases hf : a0 * a2 < 18446744073709551616
    · by_cases hg : a0 * a2 + a0 < 18446744073709551616
      · exact part_ss a0 a1 a2 w ba0 ba1 bb0 bb1 bc0 bc1 hd hg
      · exact part_sm a0 a1 a2 w ba0 ba1 bb0 bb1 bc0 bc1 hd hf (by omega)
    · exact part_sb a0 a1 a2 w ba0 ba1 bb0 bb1 bc0 bc1 hd (by omega)
  · by_cases hf : a0 * a2 < 18446744073709551616
    · by_cases hg : a0 * a2 + a0 < 18446744073709551616
      · exact part_bs a0 a1 a2 w ba0 ba1 bb0 bb1 bc0 bc1 (by omega) hg
      · exact part_bm a0 a1 a2 w ba0 ba1 bb0 bb1 bc0 bc1 (by omega) hf (by omega)
    · exact part_bb a0 a1 a2 w ba0 ba1 bb0 bb1 bc0 bc1 (by omega) (by omega)

set_option maxRecDepth 100000 in
theorem lifted (os : Os) (started : os.Started) (H : Type) (enc : TypeId × Value → H) :
    ReturnsInHanded {} Try.checked os 6 .any (Rows.wordProductsSpec.pre6 enc Try.prog Try.f6 Rows.wordProductsRow.domain false) (Rows.wordProductsSpec.post enc Try.prog Try.f6 false true false false) := by
  refine returnsInHanded_of_change (C := Try.checked) own started (by kernel_rfl) Try.func6
    (ChangeSpec.witness6 (enc := enc) (C := Try.checked) false ⟨#[], #[.int .u64 0, .int .u64 0, .int .u8 0], []⟩ 8 (by kernel_rfl) (by kernel_rfl) (by kernel_rfl) (by kernel_rfl)) ?_
  intro W base args ds gs before hval0 hW hcnd _
  have hval : ∀ (j : Nat) t v, Try.f6.params[j]? = some t → args[j]? = some v → Value.okWide Try.prog W .any base t v := hval0
  have hW' := hW
  obtain ⟨p, q, hA0, hV, rfl, hfz, hnd⟩ := hW
  have hA : DataW.TrodAll enc Try.prog W 0 (fun _ => true) true Try.f6.params.toList args.toList ds p := hA0
  rw [Try.params6] at hA hval
  obtain ⟨v0, vs0, d0, ds0, p0, q0, hargs, rfl, rfl, h0, r0⟩ := trodAll_cons hA
  obtain ⟨v1, vs1, d1, ds1, p1, q1, rfl, rfl, rfl, h1, r1⟩ := trodAll_cons r0
  obtain ⟨v2, vs2, d2, ds2, p2, q2, rfl, rfl, rfl, h2, r2⟩ := trodAll_cons r1
  obtain ⟨rfl, rfl, rfl⟩ := trodAll_nil r2
  obtain rfl : args = #[v0, v1, v2] := by cases args; simp_all
  obtain ⟨rfl, rfl⟩ := trodVars_none hV
  obtain ⟨a0, rfl, rfl, rfl, w0⟩ := open_int Try.underlying22 (hval 0 22 v0 rfl rfl) h0
  obtain ⟨a1, rfl, rfl, rfl, w1⟩ := open_int Try.underlying22 (hval 1 22 v1 rfl rfl) h1
  obtain ⟨a2, rfl, rfl, rfl, w2⟩ := open_int Try.underlying5 (hval 2 5 v2 rfl rfl) h2
  clear hA0 hval0
  simp only [List.append_nil] at hW'
  refine (walk a0 a1 a2 w0 w1 w2 W).mono fun e W' ⟨he, hg⟩ => ?_
  subst he
  exact ⟨_, rfl, post_plain hW' (fun _ _ _ => (trodAll_cons_mk (shut_bool Try.underlying4 _) trodAll_mk0)) (fun sp => (trodAll_cons_mk (shut_int Try.underlying22 w0) (trodAll_cons_mk (shut_int Try.underlying22 w1) (trodAll_cons_mk (shut_int Try.underlying5 w2) trodAll_mk0)))) (fun _ => rfl) hg (ok_one (by kernel_rfl) rfl (okWide_bool_mk Try.underlying4 _))⟩

theorem over : Rows.wordProductsRow.holds Try.pinned (OpenSpec.ofChange Rows.wordProductsSpec) :=
  OpenClaim.holds_of_wide 6 Try.f6 rfl rfl rfl rfl rfl rfl rfl ⟨rfl, rfl, rfl, rfl, rfl⟩ rfl rfl rfl rfl rfl (by kernel_rfl) Try.func6 (by kernel_rfl)
    (of_decide_eq_true (by kernel_rfl)) (by unfold Func.isWrapper; first | (rw [if_pos (by decide +kernel)]; kernel_rfl) | (rw [if_neg (by decide +kernel)]; exact ⟨rfl, rfl⟩))
    (fun os started H enc _ => lifted os started H enc)

theorem proved : Rows.WordProductsSaid := over
#print axioms proved
end Go.Proofs.Ytalhpiljenhcaaa.wordProducts
