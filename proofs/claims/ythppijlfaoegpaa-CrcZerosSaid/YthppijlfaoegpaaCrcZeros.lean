/- For every two sums and every two counts the statement CrcZeros about crc.Zeros and crc.More returns true, and changes nothing. Conditions: none. -/
import Derived.Test.YthppijlfaoegpaaCrcS
import Derived.Test.YthppijlfaoegpaaClass
import Derived.Test.YthppijlfaoegpaaFrame
import Derived.Test.YthppijlfaoegpaaArr
import Derived.Deep.QuietTactic
import Derived.BigQuiet
import Derived.StillTailTactics
import Derived.WalkSmall
import Derived.Deep.DeepCutAuto
import Derived.Deep.RegionWith
import Derived.Deep.LoopGhost
import Derived.ProofKit
import Derived.OpenShut
import Derived.ShutString
import Derived.SizedLaws
namespace Go.Proofs.Ythppijlfaoegpaa.crcZeros
open Go.ChangeShapes Go.WideShapes Go.ChangeAt Go.RowKit Go.Lib
open Go.ChangeMaps (open_string shut_string)
set_option linter.unusedVariables false

theorem own : ownKnob Try.prog.godebug = none := by kernel_rfl

theorem below_drewN {B : Nat} {a w : World} (h : Below B a w) (n : Nat) : Below B a (w.drewN n) := ⟨h.os, h.tape, h.output, h.size, h.block⟩
theorem eqs {a b : Nat} (l : List UInt8) (ha : a < 4294967296) (hb : b < 4294967296) : (((Crc.more a l : Nat) : Int) == ((Crc.more b l : Nat) : Int)) = ((a : Int) == (b : Int)) := by
  rw [Bool.eq_iff_iff, beq_iff_eq, beq_iff_eq]
  constructor
  · intro h
    have := Crc.more_inj l ha hb (by omega)
    omega
  · intro h
    have : a = b := by omega
    rw [this]

theorem more_zeros (a x y : Nat) : Crc.more (Crc.more a (List.replicate x 0)) (List.replicate y 0) = Crc.more a (List.replicate (x + y) 0) := by
  rw [← Crc.more_append, List.replicate_append_replicate]

set_option maxHeartbeats 1000000 in
theorem body (a b p q r s t x y : Nat) (n0 n1 : Int) (B : Bool) (w : World) (b0 : 0 ≤ n0) (b0' : n0 < 65536) (b1 : 0 ≤ n1) (b1' : n1 < 65536) (hx : n0 % 301 = (x : Int)) (hy : n1 % 301 = (y : Int)) (ha : a < 4294967296) (hb : b < 4294967296) (hp : p < 4294967296)
    (e1 : ((a : Int) == (b : Int)) = B) (e2 : ((p : Int) == (q : Int)) = B)
    (HP : Hid (Crc.more a (List.replicate (zn x) 0) = p)) (HQ : Hid (Crc.more b (List.replicate (zn x) 0) = q)) (HR : Hid (Crc.more p (List.replicate (zn y) 0) = r)) (HS : Hid (Crc.more a (List.replicate (zn ((x : Int) + (y : Int))) 0) = r))
    (HT : Hid (Crc.more a (List.replicate (zn 1) 0) = t)) :
    Calls Try.prog 8 #[.int .u32 a, .int .u32 b, .agg #[.int .u16 n0, .int .u16 n1]] w fun e w' => e = .returned (.bool true) ∧ Below w.heap.size w w' := by
  have hxb : x ≤ 300 := by omega
  have hyb : y ≤ 300 := by omega
  go_enter Try.func8, Try.ntmps8
  go_wp2_with fail
  go_quiet (fail)
  rw [hx, hy]
  have h0 : Below w.heap.size w ((w.alloc (.cells #[.int .u16 n0, .int .u16 n1] 34)).drewN nq) := below_drewN ((Below.refl _ _).alloc (Nat.le_refl _) _) nq
  generalize (w.alloc (.cells #[.int .u16 n0, .int .u16 n1] 34)).drewN nq = W at *
  clear hx hy
  go_wp2_with fail
  refine (zeros_ge w a p (x : Int) _ ha HP.out h0).mono ?_
  rintro e w1 ⟨rfl, h1⟩
  go_wp2_with fail
  refine (zeros_ge w p r (y : Int) _ hp HR.out h1).mono ?_
  rintro e w2 ⟨rfl, h2⟩
  go_wp2_with fail
  refine (zeros_ge w a r ((x : Int) + (y : Int)) _ ha HS.out h2).mono ?_
  rintro e w3 ⟨rfl, h3⟩
  go_wp2_with fail
  refine (zeros_ge w a p (x : Int) _ ha HP.out h3).mono ?_
  rintro e w4 ⟨rfl, h4⟩
  go_wp2_with fail
  refine (zeros_ge w b q (x : Int) _ hb HQ.out h4).mono ?_
  rintro e w5 ⟨rfl, h5⟩
  go_wp2_with fail
  refine (zeros_ge w a t 1 _ ha HT.out h5).mono ?_
  rintro e w6 ⟨rfl, h6⟩
  go_wp2_with fail
  refine (more_ge w a t _ _ ha (by decide) HT.out h6).mono ?_
  rintro e w7 ⟨rfl, h7⟩
  go_wp2_with fail
  refine (fixed_ge w _ h7).mono ?_
  rintro e w8 ⟨rfl, h8⟩
  go_wp2_with fail
  go_ret
  exact ⟨rfl, h8⟩

set_option maxHeartbeats 1000000 in
theorem walk (a0 a1 : Int) (a2_0 a2_1 : Int) (w0 : (Lit.int .u32 a0).wf = true) (w1 : (Lit.int .u32 a1).wf = true) (w2_0 : (Lit.int .u16 a2_0).wf = true) (w2_1 : (Lit.int .u16 a2_1).wf = true) (w : World) :
    Calls Try.prog 8 #[.int .u32 a0, .int .u32 a1, .agg #[.int .u16 a2_0, .int .u16 a2_1]] w fun e w' => e = .returned (.bool true) ∧ Below w.heap.size w w' := by
  obtain ⟨ba0, ba1⟩ := bounds_u32 w0
  obtain ⟨bb0, bb1⟩ := bounds_u32 w1
  obtain ⟨bc0, bc1⟩ := bounds_u16 w2_0
  obtain ⟨bd0, bd1⟩ := bounds_u16 w2_1
  obtain ⟨a, rfl⟩ := Int.eq_ofNat_of_zero_le ba0
  obtain ⟨b, rfl⟩ := Int.eq_ofNat_of_zero_le bb0
  have ha : a < 4294967296 := by omega
  have hb : b < 4294967296 := by omega
  obtain ⟨x, hx⟩ := Int.eq_ofNat_of_zero_le (show 0 ≤ a2_0 % 301 by omega)
  obtain ⟨y, hy⟩ := Int.eq_ofNat_of_zero_le (show 0 ≤ a2_1 % 301 by omega)
  have zx : zn (x : Int) = x := by have := zn_in (c := (x : Int)) (by omega) (by omega); omega
  have zy : zn (y : Int) = y := by have := zn_in (c := (y : Int)) (by omega) (by omega); omega
  have zxy : zn ((x : Int) + (y : Int)) = x + y := by have := zn_in (c := (x : Int) + (y : Int)) (by omega) (by omega); omega
  refine body a b (Crc.more a (List.replicate (zn x) 0)) (Crc.more b (List.replicate (zn x) 0)) _ 0 _ x y a2_0 a2_1 _ w bc0 (by omega) bd0 (by omega) hx hy ha hb (Crc.more_lt _ ha) rfl (eqs _ ha hb) (Lib.hid rfl) (Lib.hid rfl) (Lib.hid rfl) (Lib.hid ?_) (Lib.hid rfl)
  rw [zx, zy, zxy, more_zeros]

theorem cellsE2 : Try.prog.cellsOf 28 = 1 := by kernel_rfl
theorem cellsT2 : Try.prog.cellsOf 34 = 2 := by kernel_rfl

set_option maxRecDepth 100000 in
theorem lifted (os : Os) (started : os.Started) (H : Type) (enc : TypeId × Value → H) :
    ReturnsInHanded {} Try.checked os 8 .any (Rows.crcZerosSpec.pre6 enc Try.prog Try.f8 Rows.crcZerosRow.domain false) (Rows.crcZerosSpec.post enc Try.prog Try.f8 false true false false) := by
  refine returnsInHanded_of_change (C := Try.checked) own started (by kernel_rfl) Try.func8
    (ChangeSpec.witness6 (enc := enc) (C := Try.checked) false ⟨#[], #[.int .u32 0, .int .u32 0, .agg #[.int .u16 0, .int .u16 0]], []⟩ 8 (by kernel_rfl) (by kernel_rfl) (by kernel_rfl) (by kernel_rfl)) ?_
  intro W base args ds gs before hval0 hW hcnd _
  have hval : ∀ (j : Nat) t v, Try.f8.params[j]? = some t → args[j]? = some v → Value.okWide Try.prog W .any base t v := hval0
  have hW' := hW
  obtain ⟨p, q, hA0, hV, rfl, hfz, hnd⟩ := hW
  have hA : DataW.TrodAll enc Try.prog W 0 (fun _ => true) true Try.f8.params.toList args.toList ds p := hA0
  rw [Try.params8] at hA hval
  obtain ⟨v0, vs0, d0, ds0, p0, q0, hargs, rfl, rfl, h0, r0⟩ := trodAll_cons hA
  obtain ⟨v1, vs1, d1, ds1, p1, q1, rfl, rfl, rfl, h1, r1⟩ := trodAll_cons r0
  obtain ⟨v2, vs2, d2, ds2, p2, q2, rfl, rfl, rfl, h2, r2⟩ := trodAll_cons r1
  obtain ⟨rfl, rfl, rfl⟩ := trodAll_nil r2
  obtain rfl : args = #[v0, v1, v2] := by cases args; simp_all
  obtain ⟨rfl, rfl⟩ := trodVars_none hV
  obtain ⟨a0, rfl, rfl, rfl, w0⟩ := open_int Try.underlying22 (hval 0 22 v0 rfl rfl) h0
  obtain ⟨a1, rfl, rfl, rfl, w1⟩ := open_int Try.underlying22 (hval 1 22 v1 rfl rfl) h1
  obtain ⟨a2_0, a2_1, rfl, rfl, rfl, w2_0, w2_1⟩ := open_arr2 Try.underlying34 Try.underlying28 cellsE2 cellsT2 (hval 2 34 v2 rfl rfl) h2
  clear hA0 hval0
  simp only [List.append_nil] at hW'
  refine (walk a0 a1 a2_0 a2_1 w0 w1 w2_0 w2_1 W).mono fun e W' ⟨he, hg⟩ => ?_
  subst he
  exact ⟨_, rfl, post_plain hW' (fun _ _ _ => (trodAll_cons_mk (shut_bool Try.underlying4 _) trodAll_mk0)) (fun sp => (trodAll_cons_mk (shut_int Try.underlying22 w0) (trodAll_cons_mk (shut_int Try.underlying22 w1) (trodAll_cons_mk (shut_arr2 Try.underlying34 Try.underlying28 cellsE2 cellsT2 w2_0 w2_1) trodAll_mk0)))) (fun _ => rfl) hg (ok_one (by kernel_rfl) rfl (okWide_bool_mk Try.underlying4 _))⟩

theorem over : Rows.crcZerosRow.holds Try.pinned (OpenSpec.ofChange Rows.crcZerosSpec) :=
  OpenClaim.holds_of_wide 8 Try.f8 rfl rfl rfl rfl rfl rfl rfl ⟨rfl, rfl, rfl, rfl, rfl⟩ rfl rfl rfl rfl rfl (by kernel_rfl) Try.func8 (by kernel_rfl)
    (of_decide_eq_true (by kernel_rfl)) (by unfold Func.isWrapper; first | (rw [if_pos (by decide +kernel)]; kernel_rfl) | (rw [if_neg (by decide +kernel)]; exact ⟨rfl, rfl⟩))
    (fun os started H enc _ => lifted os started H enc)

theorem proved : Rows.CrcZerosSaid := over
#print axioms proved
end Go.Proofs.Ythppijlfaoegpaa.crcZeros
