/- The walk of the statement WordTells: for every two numbers, every size and every string it returns true, and changes nothing that was there. -/
import Derived.Test.YtalhpiljenhcaaaWordR
import Derived.Test.YtalhpiljenhcaaaFrame
import Derived.Deep.DeepCutAuto
import Derived.Test.YtalhpiljenhcaaaClass
import Derived.ProofKit
import Derived.OpenShut
import Derived.ShutString
namespace Go.Proofs.Ytalhpiljenhcaaa.wordTells
open Go.ChangeShapes Go.WideShapes Go.ChangeAt Go.RowKit Go.Lib
set_option linter.unusedVariables false

theorem add_both (a b : Int) (ha : 0 ≤ a) (hb : 0 ≤ b) (ha' : a < 18446744073709551616) (hb' : b < 18446744073709551616) :
    ∃ (c : Int) (o : Bool), (∀ w, Calls Try.prog 10 #[.int .u64 a, .int .u64 b] w fun e w' => e = .returned (.tuple #[.int .u64 c, .bool o]) ∧ w = w') ∧
      (∀ w, Calls Try.prog 11 #[.int .u64 a, .int .u64 b] w fun e w' => e = .returned (.tuple #[.int .u64 c, .bool o]) ∧ w = w') := by
  by_cases h : a + b < 18446744073709551616
  · exact ⟨a + b, false, fun w => add_small a b w ha hb h, fun w => R1.add_is a b _ w ha hb rfl h⟩
  · exact ⟨18446744073709551615, true, fun w => add_big a b w ha hb (by omega) ha' hb', fun w => R1.add_over a b w ha hb ha' hb' (by omega)⟩

theorem mul_both (a b : Int) (ha : 0 ≤ a) (hb : 0 ≤ b) (ha' : a < 18446744073709551616) (hb' : b < 18446744073709551616) :
    ∃ (c : Int) (o : Bool), (∀ w, Calls Try.prog 12 #[.int .u64 a, .int .u64 b] w fun e w' => e = .returned (.tuple #[.int .u64 c, .bool o]) ∧ w = w') ∧
      (∀ w, Calls Try.prog 13 #[.int .u64 a, .int .u64 b] w fun e w' => e = .returned (.tuple #[.int .u64 c, .bool o]) ∧ w = w') := by
  by_cases h0 : b = 0
  · subst h0
    exact ⟨0, false, fun w => mul_is a 0 0 w ha hb ha' hb' (Int.mul_zero a) (by omega), fun w => R1.mul_zero a w ha ha'⟩
  have hp : 0 < b := by omega
  by_cases h : a * b < 18446744073709551616
  · exact ⟨a * b, false, fun w => mul_is a b _ w ha hb ha' hb' rfl h, fun w => R1.mul_is a b _ w ha hp rfl h⟩
  · exact ⟨18446744073709551615, true, fun w => mul_over a b w ha hb ha' hb' (by omega), fun w => R1.mul_over a b w ha hp (by omega)⟩

/-- What stays while the calls go: old memory, and the two cells of the boxed argument. -/
structure Inv (w : World) (sz : Int) (s : ByteArray) (W : World) : Prop where
  b : Below w.heap.size w W
  z : w.heap.size < W.heap.size
  c0 : W.cell? ⟨w.heap.size, 0, none⟩ = some (.int .i64 sz)
  c1 : W.cell? ⟨w.heap.size, 1, none⟩ = some (.string s)

theorem Inv.step {w : World} {sz : Int} {s : ByteArray} {W W' : World} (h : Inv w sz s W) (hb : Below W.heap.size W W') : Inv w sz s W' :=
  ⟨h.b.trans (hb.mono h.b.size), Nat.lt_of_lt_of_le h.z hb.size, (hb.cell (p := ⟨w.heap.size, 0, none⟩) h.z).trans h.c0, (hb.cell (p := ⟨w.heap.size, 1, none⟩) h.z).trans h.c1⟩

theorem put_inv (w : World) (sz : Int) (s : ByteArray) (n : Int) (r : ByteArray) (W : World) (h0 : 0 ≤ n) (h1 : n < 18446744073709551616) (hr : (⟨(putL n.toNat (clampN sz)).toArray⟩ : ByteArray) = r) (hi : Inv w sz s W) :
    Calls Try.prog 14 #[.int .u64 n, .int .i64 sz] W fun e W' => e = .returned (.string r) ∧ Inv w sz s W' :=
  (put_at n sz r W h0 h1 hr).mono fun _ _ ⟨he, hb⟩ => ⟨he, hi.step hb⟩
theorem rput_inv (w : World) (sz : Int) (s : ByteArray) (n : Int) (r : ByteArray) (W : World) (h0 : 0 ≤ n) (h1 : n < 18446744073709551616) (hr : (⟨(putL n.toNat (clampN sz)).toArray⟩ : ByteArray) = r) (hi : Inv w sz s W) :
    Calls Try.prog 15 #[.int .u64 n, .int .i64 sz] W fun e W' => e = .returned (.string r) ∧ Inv w sz s W' := by
  subst hr
  exact (R1.put_any n sz W h0 h1).mono fun _ _ ⟨he, hb⟩ => ⟨he, hi.step hb⟩
theorem get_inv (w : World) (sz : Int) (s : ByteArray) (r : Int) (W : World) (hr : (getN s.data.toList : Int) = r) (hi : Inv w sz s W) :
    Calls Try.prog 16 #[.string s] W fun e W' => e = .returned (.int .u64 r) ∧ Inv w sz s W' :=
  (get_at s r W hr).mono fun _ _ ⟨he, hb⟩ => ⟨he, hi.step hb⟩
theorem rget_inv (w : World) (sz : Int) (s : ByteArray) (r : Int) (W : World) (hr : (getN s.data.toList : Int) = r) (hi : Inv w sz s W) :
    Calls Try.prog 17 #[.string s] W fun e W' => e = .returned (.int .u64 r) ∧ Inv w sz s W' := by
  subst hr
  exact (R1.get_any s W).mono fun _ _ ⟨he, hw⟩ => ⟨he, by subst hw; exact hi⟩
theorem less_inv (w : World) (sz : Int) (s : ByteArray) (a b l : Int) (W : World) (ha : a < 18446744073709551616) (hb : 0 ≤ b) (hl : lessI a b = l) (hi : Inv w sz s W) :
    Calls Try.prog 18 #[.int .u64 a, .int .u64 b] W fun e W' => e = .returned (.int .u64 l) ∧ Inv w sz s W' :=
  (less_is a b l W ha hb hl).mono fun _ _ ⟨he, hw⟩ => ⟨he, by subst hw; exact hi⟩
theorem rless_inv (w : World) (sz : Int) (s : ByteArray) (a b l : Int) (W : World) (ha : a < 18446744073709551616) (hb : 0 ≤ b) (hl : lessI a b = l) (hi : Inv w sz s W) :
    Calls Try.prog 19 #[.int .u64 a, .int .u64 b] W fun e W' => e = .returned (.int .u64 l) ∧ Inv w sz s W' := by
  subst hl
  exact (R1.less_any a b W hb ha).mono fun _ _ ⟨he, hw⟩ => ⟨he, by subst hw; exact hi⟩
theorem fixed_inv (w : World) (sz : Int) (s : ByteArray) (W : World) (hi : Inv w sz s W) :
    Calls Try.prog 20 #[] W fun e W' => e = .returned (.bool true) ∧ Inv w sz s W' :=
  (fixed_any W).mono fun _ _ ⟨he, hb⟩ => ⟨he, hi.step hb⟩

set_option maxHeartbeats 8000000 in
set_option maxRecDepth 100000 in
theorem walk (a0 a1 sz : Int) (s : ByteArray) (w0 : (Lit.int .u64 a0).wf = true) (w1 : (Lit.int .u64 a1).wf = true) (w : World) :
    Calls Try.prog 3 #[.int .u64 a0, .int .u64 a1, .agg #[.int .i64 sz, .string s]] w fun e w' => e = .returned (.bool true) ∧ Below w.heap.size w w' := by
  obtain ⟨ba0, ba1⟩ := bounds_u64 w0
  obtain ⟨bb0, bb1⟩ := bounds_u64 w1
  clear w0 w1
  obtain ⟨c, o, cA, cA'⟩ := add_both a0 a1 ba0 bb0 (by omega) (by omega)
  obtain ⟨d, q, cM, cM'⟩ := mul_both a0 a1 ba0 bb0 (by omega) (by omega)
  have CA := Lib.hid cA
  have CA' := Lib.hid cA'
  have CM := Lib.hid cM
  have CM' := Lib.hid cM'
  clear cA cA' cM cM'
  obtain ⟨r, R⟩ : ∃ r, Hid ((⟨(putL a0.toNat (clampN sz)).toArray⟩ : ByteArray) = r) := ⟨_, rfl⟩
  obtain ⟨g, G⟩ : ∃ g : Int, Hid ((getN s.data.toList : Int) = g) := ⟨_, rfl⟩
  obtain ⟨l, L⟩ : ∃ l, Hid (lessI a0 a1 = l) := ⟨_, rfl⟩
  have hi0 : Inv w sz s (w.alloc (.cells #[.int .i64 sz, .string s] 24)) := ⟨(Below.refl _ _).alloc (Nat.le_refl _) _, by simp, by simp [go_sem], by simp [go_sem]⟩
  go_enter Try.func3, Try.ntmps3
  go_upto_region 1 with fail
  generalize w.alloc (.cells #[.int .i64 sz, .string s] 24) = W at *
  go_wp2_with fail
  refine (CA.out _).mono ?_
  rintro e w' ⟨rfl, rfl⟩
  go_wp2_with fail
  refine (CA'.out _).mono ?_
  rintro e w' ⟨rfl, rfl⟩
  go_wp2_with fail
  refine (CM.out _).mono ?_
  rintro e w' ⟨rfl, rfl⟩
  go_wp2_with fail
  refine (CM'.out _).mono ?_
  rintro e w' ⟨rfl, rfl⟩
  go_upto_region 5 with fail
  have hne : Nonempty (In (Inv w sz s)) := ⟨⟨_, hi0⟩⟩
  have F0 : ∀ i : In (Inv w sz s), i.W.cell? ⟨w.heap.size, 0, none⟩ = some (.int .i64 sz) := fun i => i.h.c0
  have F1 : ∀ i : In (Inv w sz s), i.W.cell? ⟨w.heap.size, 1, none⟩ = some (.string s) := fun i => i.h.c1
  refine region_class (Inv w sz s) (by kernel_rfl) (by kernel_rfl) ⟨⟨hi0.b.os, hi0.b.tape, hi0.b.output, hi0.b.size, hi0.b.block⟩, hi0.z, hi0.c0, hi0.c1⟩ ?_
  repeat (go_big_quiet_step (first
    | (go_at_call 14; exact class_call _ (fun hi => put_inv w sz s a0 r _ ba0 (by omega) R.out hi))
    | (go_at_call 15; exact class_call _ (fun hi => rput_inv w sz s a0 r _ ba0 (by omega) R.out hi))
    | (go_at_call 16; exact class_call _ (fun hi => get_inv w sz s g _ G.out hi))
    | (go_at_call 17; exact class_call _ (fun hi => rget_inv w sz s g _ G.out hi))
    | (go_at_call 18; exact class_call _ (fun hi => less_inv w sz s a0 a1 l _ (by omega) bb0 L.out hi))
    | (go_at_call 19; exact class_call _ (fun hi => rless_inv w sz s a0 a1 l _ (by omega) bb0 L.out hi))
    | (go_at_call 20; exact class_call _ (fun hi => fixed_inv w sz s _ hi))))
  refine wpQuiet_nil ?_
  rintro _ ⟨i, rfl⟩
  go_wp2_with fail
  go_ret
  exact ⟨rfl, i.h.b⟩

end Go.Proofs.Ytalhpiljenhcaaa.wordTells
