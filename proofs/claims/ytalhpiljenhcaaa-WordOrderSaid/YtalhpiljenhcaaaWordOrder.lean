/- For every two numbers a and b the statement WordOrder about word.Put returns true, and changes nothing that was there. Conditions: none. -/
import Derived.Test.YtalhpiljenhcaaaWordF
import Derived.Test.YtalhpiljenhcaaaFrame
import Derived.Deep.QuietTactic
import Derived.BigQuiet
import Derived.StillTailTactics
import Derived.WalkSmall
import Derived.Deep.DeepCutAuto
import Derived.Deep.RegionWith
import Derived.Deep.LoopGhost
import Derived.ProofKit
import Derived.OpenShut
import Derived.ShutString
import Derived.SizedLaws
namespace Go.Proofs.Ytalhpiljenhcaaa.wordOrder
open Go.ChangeShapes Go.WideShapes Go.ChangeAt Go.RowKit Go.Lib
open Go.ChangeMaps (open_string shut_string)
set_option linter.unusedVariables false

theorem own : ownKnob Try.prog.godebug = none := by kernel_rfl

def Upper (a b : Nat) (j : Int) : Prop := a / 256 ^ (j + 1).toNat = b / 256 ^ (j + 1).toNat

theorem upper_top (a b : Nat) (ha : a < 18446744073709551616) (hb : b < 18446744073709551616) : Upper a b 7 := by
  show a / 256 ^ 8 = b / 256 ^ 8
  omega

theorem putL_get : ∀ (k n i : Nat), i < k → (putL n k)[i]? = some (UInt8.ofNat (n / 256 ^ i % 256))
  | 0, _, _, h => by omega
  | k + 1, n, 0, _ => by simp [putL]
  | k + 1, n, i + 1, h => by
    rw [putL, List.getElem?_cons_succ, putL_get k (n / 256) i (by omega), Nat.pow_succ, Nat.mul_comm, Nat.div_div_eq_div_mul]

theorem put_byte (a m : Nat) (r : ByteArray) (h : (⟨(putL a (clampN 8)).toArray⟩ : ByteArray) = r) (hm : m < 8) (hs : m < r.size) : (r[m]'hs).toNat = a / 256 ^ m % 256 := by
  subst h
  have e := putL_get 8 a m hm
  have e2 : (⟨(putL a (clampN 8)).toArray⟩ : ByteArray)[m]'hs = (putL a 8)[m]'(by rw [putL_length]; exact hm) := by
    exact List.getElem_toArray (xs := putL a 8) (i := m) (by rw [List.size_toArray, putL_length]; exact hm)
  rw [e2]
  rw [List.getElem?_eq_getElem (by rw [putL_length]; exact hm)] at e
  rw [Option.some.inj e]
  exact toNat_ofNat_mod _

theorem split_at (a m : Nat) : a / 256 ^ m = 256 * (a / 256 ^ (m + 1)) + a / 256 ^ m % 256 := by
  rw [Nat.pow_succ, ← Nat.div_div_eq_div_mul]; omega

theorem upper_down (a b m : Nat) (hu : Upper a b (m : Int)) (h : a / 256 ^ m % 256 = b / 256 ^ m % 256) : Upper a b ((m : Int) - 1) := by
  have hu' : a / 256 ^ (m + 1) = b / 256 ^ (m + 1) := hu
  have e1 := split_at a m
  have e2 := split_at b m
  have e : ((m : Int) - 1 + 1).toNat = m := by omega
  show a / 256 ^ ((m : Int) - 1 + 1).toNat = b / 256 ^ ((m : Int) - 1 + 1).toNat
  rw [e]
  omega

theorem upper_lt (a b m : Nat) (hu : Upper a b (m : Int)) (h : a / 256 ^ m % 256 < b / 256 ^ m % 256) : a < b := by
  have hu' : a / 256 ^ (m + 1) = b / 256 ^ (m + 1) := hu
  have e1 := split_at a m
  have e2 := split_at b m
  have hlt : a / 256 ^ m < b / 256 ^ m := by omega
  apply Nat.lt_of_not_le
  intro hle
  have := Nat.div_le_div_right (c := 256 ^ m) hle
  omega

theorem upper_eq (a b : Nat) (hu : Upper a b (-1)) : a = b := by
  have hu' : a / 256 ^ 0 = b / 256 ^ 0 := hu
  simpa using hu'

theorem upper_symm (a b : Nat) (j : Int) (h : Upper a b j) : Upper b a j := Eq.symm h

set_option maxHeartbeats 2000000 in
theorem walk (a0 a1 : Int) (w0 : (Lit.int .u64 a0).wf = true) (w1 : (Lit.int .u64 a1).wf = true) (w : World) :
    Calls Try.prog 7 #[.int .u64 a0, .int .u64 a1] w fun e w' => e = .returned (.bool true) ∧ Below w.heap.size w w' := by
  obtain ⟨ba0, ba1⟩ := bounds_u64 w0
  obtain ⟨bb0, bb1⟩ := bounds_u64 w1
  clear w0 w1
  obtain ⟨r, R⟩ : ∃ r, Hid ((⟨(putL a0.toNat (clampN 8)).toArray⟩ : ByteArray) = r) := ⟨_, rfl⟩
  obtain ⟨t, T⟩ : ∃ t, Hid ((⟨(putL a1.toNat (clampN 8)).toArray⟩ : ByteArray) = t) := ⟨_, rfl⟩
  have zr : r.size = 8 := by rw [← R.out, put_size]; decide
  have zt : t.size = 8 := by rw [← T.out, put_size]; decide
  go_enter Try.func7, Try.ntmps7
  go_wp2_with fail
  refine (put_at a0 8 r _ ba0 (by omega) R.out).mono ?_
  rintro e w1 ⟨rfl, h1⟩
  go_wp2_with fail
  refine (put_at a1 8 t _ bb0 (by omega) T.out).mono ?_
  rintro e w2 ⟨rfl, h2⟩
  go_wp2_with fail
  go_loopw [7] (fun i wr => ∃ j : Int, -1 ≤ j ∧ j ≤ 7 ∧ i = .int .i64 j ∧ Upper a0.toNat a1.toNat j ∧ Below w.heap.size w wr) (fun i _ => (intOf i + 1).toNat)
  case atStart => exact ⟨7, by omega, by omega, rfl, upper_top _ _ (by omega) (by omega), Ge.trans h1 h2⟩
  case round =>
    obtain ⟨j, hj1, hj2, rfl, hu, hb⟩ := hrel
    have HU := Lib.hid hu
    clear hu
    by_cases hj : 0 ≤ j
    · obtain ⟨m, rfl⟩ := Int.eq_ofNat_of_zero_le hj
      have hm : m < 8 := by omega
      have hmi : (m : Int) < 8 := by omega
      obtain ⟨x, hx⟩ : ∃ x, (r[m]'(by omega)).toNat = x := ⟨_, rfl⟩
      obtain ⟨y, hy⟩ : ∃ y, (t[m]'(by omega)).toNat = y := ⟨_, rfl⟩
      have X : Hid (a0.toNat / 256 ^ m % 256 = x) := by rw [← hx]; exact (put_byte a0.toNat m r R.out hm _).symm
      have Y : Hid (a1.toNat / 256 ^ m % 256 = y) := by rw [← hy]; exact (put_byte a1.toNat m t T.out hm _).symm
      rcases Nat.lt_trichotomy x y with h | h | h
      · have n1 : ((x : Int) != (y : Int)) = true := by rw [bne_iff_ne]; omega
        have n2 : decide (x < y) = true := by simpa using h
        have n3 : a0 < a1 := by
          have := upper_lt _ _ m HU.out (by rw [X.out, Y.out]; exact h)
          omega
        have n4 : (a0 != a1) = true := by rw [bne_iff_ne]; omega
        go_wp2_with fail
        go_quiet (fail)
        go_wp2_with fail
        go_still_tail 17, (by kernel_rfl)
        change wpList _ _ _ _ _ (wr.drewN nq).drew
        have hb' : Below w.heap.size w (wr.drewN nq).drew := (below_drewN hb _).drew
        generalize (wr.drewN nq).drew = w3 at hb' ⊢
        go_wp2_with fail
        refine (fixed_any _).mono ?_
        rintro e w4 ⟨rfl, h4⟩
        go_wp2_with fail
        go_ret
        exact ⟨rfl, hb'.trans (h4.mono hb'.size)⟩
      · have n1 : ((x : Int) != (y : Int)) = false := by rw [bne_eq_false_iff_eq]; omega
        go_wp2_with fail
        go_quiet (fail)
        go_wp2_with fail
        go_roundw
        case rel => exact ⟨(m : Int) - 1, by omega, by omega, rfl, upper_down _ _ m HU.out (by rw [X.out, Y.out]; exact h), below_drewN hb _⟩
        case measure => simp [intOf]
      · have n1 : ((x : Int) != (y : Int)) = true := by rw [bne_iff_ne]; omega
        have n2 : decide (x < y) = false := by rw [decide_eq_false_iff_not]; omega
        have n3 : a1 < a0 := by
          have := upper_lt _ _ m (upper_symm _ _ _ HU.out) (by rw [X.out, Y.out]; exact h)
          omega
        have n5 : decide (a0 < a1) = false := by rw [decide_eq_false_iff_not]; omega
        have n4 : (a0 != a1) = true := by rw [bne_iff_ne]; omega
        go_wp2_with fail
        go_quiet (fail)
        go_wp2_with fail
        go_still_tail 17, (by kernel_rfl)
        change wpList _ _ _ _ _ (wr.drewN nq).drew
        have hb' : Below w.heap.size w (wr.drewN nq).drew := (below_drewN hb _).drew
        generalize (wr.drewN nq).drew = w3 at hb' ⊢
        go_wp2_with fail
        refine (fixed_any _).mono ?_
        rintro e w4 ⟨rfl, h4⟩
        go_wp2_with fail
        go_ret
        exact ⟨rfl, hb'.trans (h4.mono hb'.size)⟩
    · obtain rfl : j = -1 := by omega
      have he : a0 = a1 := by have := upper_eq _ _ HU.out; omega
      subst he
      go_wp2_with fail
      refine (fixed_any _).mono ?_
      rintro e w3 ⟨rfl, h3⟩
      go_wp2_with fail
      go_ret
      exact ⟨rfl, hb.trans (h3.mono hb.size)⟩

set_option maxRecDepth 100000 in
theorem lifted (os : Os) (started : os.Started) (H : Type) (enc : TypeId × Value → H) :
    ReturnsInHanded {} Try.checked os 7 .any (Rows.wordOrderSpec.pre6 enc Try.prog Try.f7 Rows.wordOrderRow.domain false) (Rows.wordOrderSpec.post enc Try.prog Try.f7 false true false false) := by
  refine returnsInHanded_of_change (C := Try.checked) own started (by kernel_rfl) Try.func7
    (ChangeSpec.witness6 (enc := enc) (C := Try.checked) false ⟨#[], #[.int .u64 0, .int .u64 0], []⟩ 8 (by kernel_rfl) (by kernel_rfl) (by kernel_rfl) (by kernel_rfl)) ?_
  intro W base args ds gs before hval0 hW hcnd _
  have hval : ∀ (j : Nat) t v, Try.f7.params[j]? = some t → args[j]? = some v → Value.okWide Try.prog W .any base t v := hval0
  have hW' := hW
  obtain ⟨p, q, hA0, hV, rfl, hfz, hnd⟩ := hW
  have hA : DataW.TrodAll enc Try.prog W 0 (fun _ => true) true Try.f7.params.toList args.toList ds p := hA0
  rw [Try.params7] at hA hval
  obtain ⟨v0, vs0, d0, ds0, p0, q0, hargs, rfl, rfl, h0, r0⟩ := trodAll_cons hA
  obtain ⟨v1, vs1, d1, ds1, p1, q1, rfl, rfl, rfl, h1, r1⟩ := trodAll_cons r0
  obtain ⟨rfl, rfl, rfl⟩ := trodAll_nil r1
  obtain rfl : args = #[v0, v1] := by cases args; simp_all
  obtain ⟨rfl, rfl⟩ := trodVars_none hV
  obtain ⟨a0, rfl, rfl, rfl, w0⟩ := open_int Try.underlying22 (hval 0 22 v0 rfl rfl) h0
  obtain ⟨a1, rfl, rfl, rfl, w1⟩ := open_int Try.underlying22 (hval 1 22 v1 rfl rfl) h1
  clear hA0 hval0
  simp only [List.append_nil] at hW'
  refine (walk a0 a1 w0 w1 W).mono fun e W' ⟨he, hg⟩ => ?_
  subst he
  exact ⟨_, rfl, post_plain hW' (fun _ _ _ => (trodAll_cons_mk (shut_bool Try.underlying4 _) trodAll_mk0)) (fun sp => (trodAll_cons_mk (shut_int Try.underlying22 w0) (trodAll_cons_mk (shut_int Try.underlying22 w1) trodAll_mk0))) (fun _ => rfl) hg (ok_one (by kernel_rfl) rfl (okWide_bool_mk Try.underlying4 _))⟩

theorem over : Rows.wordOrderRow.holds Try.pinned (OpenSpec.ofChange Rows.wordOrderSpec) :=
  OpenClaim.holds_of_wide 7 Try.f7 rfl rfl rfl rfl rfl rfl rfl ⟨rfl, rfl, rfl, rfl, rfl⟩ rfl rfl rfl rfl rfl (by kernel_rfl) Try.func7 (by kernel_rfl)
    (of_decide_eq_true (by kernel_rfl)) (by unfold Func.isWrapper; first | (rw [if_pos (by decide +kernel)]; kernel_rfl) | (rw [if_neg (by decide +kernel)]; exact ⟨rfl, rfl⟩))
    (fun os started H enc _ => lifted os started H enc)

theorem proved : Rows.WordOrderSaid := over
#print axioms proved
end Go.Proofs.Ytalhpiljenhcaaa.wordOrder
