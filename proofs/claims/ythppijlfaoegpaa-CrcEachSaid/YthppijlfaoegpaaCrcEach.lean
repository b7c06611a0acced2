/- For every two sums and every string the statement CrcEach about crc.More returns true, and changes nothing. Conditions: none. -/
import Derived.Test.YthppijlfaoegpaaCrcS
import Derived.Test.YthppijlfaoegpaaClass
import Derived.Test.YthppijlfaoegpaaFrame
import Derived.Test.YthppijlfaoegpaaArr
import Derived.Deep.QuietTactic
import Derived.BigQuiet
import Derived.StillTailTactics
import Derived.WalkSmall
import Derived.Deep.DeepCutAuto
import Derived.Deep.RegionWith
import Derived.Deep.LoopGhost
import Derived.ProofKit
import Derived.OpenShut
import Derived.ShutString
import Derived.SizedLaws
namespace Go.Proofs.Ythppijlfaoegpaa.crcEach
open Go.ChangeShapes Go.WideShapes Go.ChangeAt Go.RowKit Go.Lib
open Go.ChangeMaps (open_string shut_string)
set_option linter.unusedVariables false

theorem own : ownKnob Try.prog.godebug = none := by kernel_rfl

theorem eqs {a b : Nat} (l : List UInt8) (ha : a < 4294967296) (hb : b < 4294967296) : (((Crc.more a l : Nat) : Int) == ((Crc.more b l : Nat) : Int)) = ((a : Int) == (b : Int)) := by
  rw [Bool.eq_iff_iff, beq_iff_eq, beq_iff_eq]
  constructor
  · intro h
    have := Crc.more_inj l ha hb (by omega)
    omega
  · intro h
    have : a = b := by omega
    rw [this]

set_option maxHeartbeats 1000000 in
theorem short (a b x y c p q d : Nat) (B : Bool) (a2 : ByteArray) (w : World) (z2 : a2.size ≤ 140737488351232) (hs : (a2.size : Int) ≤ 100) (ha : a < 4294967296) (hb : b < 4294967296) (hc : c < 4294967296)
    (e1 : ((a : Int) == (b : Int)) = B) (e2 : ((x : Int) == (y : Int)) = B)
    (e3 : bits .xor .u32 (a : Int) (b : Int) = (c : Int)) (e4 : bits .xor .u32 (x : Int) (y : Int) = (d : Int)) (e5 : bits .xor .u32 (p : Int) (q : Int) = (d : Int))
    (HX : Hid (Crc.more a a2.data.toList = x)) (HY : Hid (Crc.more b a2.data.toList = y)) (HP : Hid (Crc.more c (zstr a2.size).data.toList = p)) (HQ : Hid (Crc.more 0 (zstr a2.size).data.toList = q)) :
    Calls Try.prog 7 #[.int .u32 a, .int .u32 b, .string a2] w fun e w' => e = .returned (.bool true) ∧ Below w.heap.size w w' := by
  have zl : a2.size ≤ maxLen := by unfold maxLen; omega
  have zz : (zstr a2.size).size ≤ maxLen := by rw [zstr_size]; unfold maxLen; omega
  go_enter Try.func7, Try.ntmps7
  go_wp2_with fail
  refine (more_ge w a x a2 _ ha zl HX.out (Below.refl _ _)).mono ?_
  rintro e w1 ⟨rfl, h1⟩
  go_wp2_with fail
  refine (more_ge w b y a2 _ hb zl HY.out h1).mono ?_
  rintro e w2 ⟨rfl, h2⟩
  go_wp2_with fail
  refine (lawzeros_any a2.size _ (by omega)).mono ?_
  rintro e w' ⟨rfl, rfl⟩
  go_wp2_with fail
  refine (more_ge w c p (zstr a2.size) _ hc zz HP.out h2).mono ?_
  rintro e w3 ⟨rfl, h3⟩
  go_wp2_with fail
  refine (lawzeros_any a2.size _ (by omega)).mono ?_
  rintro e w' ⟨rfl, rfl⟩
  go_wp2_with fail
  refine (more_ge w 0 q (zstr a2.size) _ (by omega) zz HQ.out h3).mono ?_
  rintro e w4 ⟨rfl, h4⟩
  go_wp2_with fail
  refine (fixed_ge w _ h4).mono ?_
  rintro e w5 ⟨rfl, h5⟩
  go_wp2_with fail
  go_ret
  exact ⟨rfl, h5⟩

set_option maxHeartbeats 1000000 in
theorem long (a b x y c p q d : Nat) (B : Bool) (a2 : ByteArray) (w : World) (z2 : a2.size ≤ 140737488351232) (hs : ¬ (a2.size : Int) ≤ 100) (hz : (a2.extract 0 100).size = 100) (ha : a < 4294967296) (hb : b < 4294967296) (hc : c < 4294967296)
    (e1 : ((a : Int) == (b : Int)) = B) (e2 : ((x : Int) == (y : Int)) = B)
    (e3 : bits .xor .u32 (a : Int) (b : Int) = (c : Int)) (e4 : bits .xor .u32 (x : Int) (y : Int) = (d : Int)) (e5 : bits .xor .u32 (p : Int) (q : Int) = (d : Int))
    (HX : Hid (Crc.more a (a2.extract 0 100).data.toList = x)) (HY : Hid (Crc.more b (a2.extract 0 100).data.toList = y)) (HP : Hid (Crc.more c (zstr 100).data.toList = p)) (HQ : Hid (Crc.more 0 (zstr 100).data.toList = q)) :
    Calls Try.prog 7 #[.int .u32 a, .int .u32 b, .string a2] w fun e w' => e = .returned (.bool true) ∧ Below w.heap.size w w' := by
  have zl : (a2.extract 0 100).size ≤ maxLen := by rw [hz]; unfold maxLen; omega
  have zz : (zstr 100).size ≤ maxLen := by rw [zstr_size]; unfold maxLen; omega
  go_enter Try.func7, Try.ntmps7
  go_wp2_with fail
  refine (more_ge w a x (a2.extract 0 100) _ ha zl HX.out (Below.refl _ _)).mono ?_
  rintro e w1 ⟨rfl, h1⟩
  go_wp2_with fail
  refine (more_ge w b y (a2.extract 0 100) _ hb zl HY.out h1).mono ?_
  rintro e w2 ⟨rfl, h2⟩
  go_wp2_with fail
  refine (lawzeros_any 100 _ (by omega)).mono ?_
  rintro e w' ⟨rfl, rfl⟩
  go_wp2_with fail
  refine (more_ge w c p (zstr 100) _ hc zz HP.out h2).mono ?_
  rintro e w3 ⟨rfl, h3⟩
  go_wp2_with fail
  refine (lawzeros_any 100 _ (by omega)).mono ?_
  rintro e w' ⟨rfl, rfl⟩
  go_wp2_with fail
  refine (more_ge w 0 q (zstr 100) _ (by omega) zz HQ.out h3).mono ?_
  rintro e w4 ⟨rfl, h4⟩
  go_wp2_with fail
  refine (fixed_ge w _ h4).mono ?_
  rintro e w5 ⟨rfl, h5⟩
  go_wp2_with fail
  go_ret
  exact ⟨rfl, h5⟩

set_option maxHeartbeats 1000000 in
theorem walk (a0 a1 : Int) (a2 : ByteArray) (w0 : (Lit.int .u32 a0).wf = true) (w1 : (Lit.int .u32 a1).wf = true) (w2 : a2.size ≤ maxLen) (z2 : a2.size ≤ 140737488351232) (w : World) :
    Calls Try.prog 7 #[.int .u32 a0, .int .u32 a1, .string a2] w fun e w' => e = .returned (.bool true) ∧ Below w.heap.size w w' := by
  obtain ⟨ba0, ba1⟩ := bounds_u32 w0
  obtain ⟨bb0, bb1⟩ := bounds_u32 w1
  clear w0 w1 w2
  obtain ⟨a, rfl⟩ := Int.eq_ofNat_of_zero_le ba0
  obtain ⟨b, rfl⟩ := Int.eq_ofNat_of_zero_le bb0
  have ha : a < 4294967296 := by omega
  have hb : b < 4294967296 := by omega
  by_cases hs : (a2.size : Int) ≤ 100
  · have hz : a2.data.toList.length = a2.size := (Go.Lib.size_eq a2).symm
    refine short a b _ _ _ _ _ _ _ a2 w z2 hs ha hb (Crc.xor_lt ha hb) rfl (eqs _ ha hb) (u32_xor_nat a b ha hb) (u32_xor_nat _ _ (Crc.more_lt _ ha) (Crc.more_lt _ hb)) ?_ (Lib.hid rfl) (Lib.hid rfl) (Lib.hid rfl) (Lib.hid rfl)
    rw [u32_xor_nat _ _ (Crc.more_lt _ (Crc.xor_lt ha hb)) (Crc.more_lt _ (by omega)), zstr_list, Crc.more_unlike a b a2.data.toList, hz]
  · have hx : (a2.extract 0 100).size = 100 := by rw [ByteArray.size_extract]; omega
    have hz : (a2.extract 0 100).data.toList.length = 100 := by rw [← Go.Lib.size_eq, hx]
    refine long a b _ _ _ _ _ _ _ a2 w z2 hs hx ha hb (Crc.xor_lt ha hb) rfl (eqs _ ha hb) (u32_xor_nat a b ha hb) (u32_xor_nat _ _ (Crc.more_lt _ ha) (Crc.more_lt _ hb)) ?_ (Lib.hid rfl) (Lib.hid rfl) (Lib.hid rfl) (Lib.hid rfl)
    rw [u32_xor_nat _ _ (Crc.more_lt _ (Crc.xor_lt ha hb)) (Crc.more_lt _ (by omega)), zstr_list, Crc.more_unlike a b (a2.extract 0 100).data.toList, hz]

set_option maxRecDepth 100000 in
theorem lifted (os : Os) (started : os.Started) (H : Type) (enc : TypeId × Value → H) :
    ReturnsInHanded {} Try.checked os 7 .any (Rows.crcEachSpec.pre6 enc Try.prog Try.f7 Rows.crcEachRow.domain false) (Rows.crcEachSpec.post enc Try.prog Try.f7 false true false false) := by
  refine returnsInHanded_of_change_sized (C := Try.checked) own started (by kernel_rfl) Try.func7
    (ChangeSpec.witness6 (enc := enc) (C := Try.checked) false ⟨#[], #[.int .u32 0, .int .u32 0, .string ByteArray.empty], []⟩ 8 (by kernel_rfl) (by kernel_rfl) (by kernel_rfl) (by kernel_rfl)) ?_
  intro W base args ds gs before hval0 hW hcnd hsz0 _
  have hsz : (DataW.weightsEach Try.prog (Try.f7.params.toList ++ Rows.crcEachSpec.plain.varTypes Try.prog) (ds ++ gs)).all (· ≤ reachBytes) = true := hsz0
  clear hsz0
  have hval : ∀ (j : Nat) t v, Try.f7.params[j]? = some t → args[j]? = some v → Value.okWide Try.prog W .any base t v := hval0
  have hW' := hW
  obtain ⟨p, q, hA0, hV, rfl, hfz, hnd⟩ := hW
  have hA : DataW.TrodAll enc Try.prog W 0 (fun _ => true) true Try.f7.params.toList args.toList ds p := hA0
  rw [Try.params7] at hA hval hsz
  obtain ⟨v0, vs0, d0, ds0, p0, q0, hargs, rfl, rfl, h0, r0⟩ := trodAll_cons hA
  obtain ⟨v1, vs1, d1, ds1, p1, q1, rfl, rfl, rfl, h1, r1⟩ := trodAll_cons r0
  obtain ⟨v2, vs2, d2, ds2, p2, q2, rfl, rfl, rfl, h2, r2⟩ := trodAll_cons r1
  obtain ⟨rfl, rfl, rfl⟩ := trodAll_nil r2
  obtain rfl : args = #[v0, v1, v2] := by cases args; simp_all
  obtain ⟨rfl, rfl⟩ := trodVars_none hV
  obtain ⟨a0, rfl, rfl, rfl, w0⟩ := open_int Try.underlying22 (hval 0 22 v0 rfl rfl) h0
  obtain ⟨a1, rfl, rfl, rfl, w1⟩ := open_int Try.underlying22 (hval 1 22 v1 rfl rfl) h1
  obtain ⟨a2, rfl, rfl, rfl, w2⟩ := open_string Try.underlying9 (hval 2 9 v2 rfl rfl) h2
  have z2 : a2.size ≤ 140737488351232 := by
    have := sized_string hsz (j := 2) (t := 9) rfl rfl
    rw [Go.Lib.size_eq]; exact this
  clear hA0 hval0
  simp only [List.append_nil] at hW'
  refine (walk a0 a1 a2 w0 w1 w2 z2 W).mono fun e W' ⟨he, hg⟩ => ?_
  subst he
  exact ⟨_, rfl, post_plain hW' (fun _ _ _ => (trodAll_cons_mk (shut_bool Try.underlying4 _) trodAll_mk0)) (fun sp => (trodAll_cons_mk (shut_int Try.underlying22 w0) (trodAll_cons_mk (shut_int Try.underlying22 w1) (trodAll_cons_mk (shut_string Try.underlying9 w2) trodAll_mk0)))) (fun _ => rfl) hg (ok_one (by kernel_rfl) rfl (okWide_bool_mk Try.underlying4 _))⟩

theorem over : Rows.crcEachRow.holds Try.pinned (OpenSpec.ofChange Rows.crcEachSpec) :=
  OpenClaim.holds_of_wide 7 Try.f7 rfl rfl rfl rfl rfl rfl rfl ⟨rfl, rfl, rfl, rfl, rfl⟩ rfl rfl rfl rfl rfl (by kernel_rfl) Try.func7 (by kernel_rfl)
    (of_decide_eq_true (by kernel_rfl)) (by unfold Func.isWrapper; first | (rw [if_pos (by decide +kernel)]; kernel_rfl) | (rw [if_neg (by decide +kernel)]; exact ⟨rfl, rfl⟩))
    (fun os started H enc _ => lifted os started H enc)

theorem proved : Rows.CrcEachSaid := over
#print axioms proved
end Go.Proofs.Ythppijlfaoegpaa.crcEach
