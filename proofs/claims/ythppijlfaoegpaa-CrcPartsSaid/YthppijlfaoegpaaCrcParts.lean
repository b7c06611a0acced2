/- For every string, every cut and every count the statement CrcParts about crc.Sum, crc.More and crc.Zeros returns true, and changes nothing. Conditions: none. -/
import Derived.Test.YthppijlfaoegpaaCrcS
import Derived.Test.YthppijlfaoegpaaClass
import Derived.Test.YthppijlfaoegpaaFrame
import Derived.Test.YthppijlfaoegpaaArr
import Derived.Deep.QuietTactic
import Derived.BigQuiet
import Derived.StillTailTactics
import Derived.WalkSmall
import Derived.Deep.DeepCutAuto
import Derived.Deep.RegionWith
import Derived.Deep.LoopGhost
import Derived.ProofKit
import Derived.OpenShut
import Derived.ShutString
import Derived.SizedLaws
namespace Go.Proofs.Ythppijlfaoegpaa.crcParts
open Go.ChangeShapes Go.WideShapes Go.ChangeAt Go.RowKit Go.Lib
open Go.ChangeMaps (open_string shut_string)
set_option linter.unusedVariables false

theorem own : ownKnob Try.prog.godebug = none := by kernel_rfl

set_option maxHeartbeats 4000000 in
set_option maxRecDepth 1000000 in
theorem short (a0 A B Z : ByteArray) (at_ : Int) (n k p q r : Nat) (w : World) (z0 : a0.size ≤ 140737488351232) (ha : (a0.size : Int) ≤ 300) (b0 : 0 ≤ at_) (b1 : at_ < 65536) (hn : (n : Int) < 256)
    (hk : (k : Int) ≤ (a0.size : Int)) (hidx : at_ % ((a0.size : Int) + 1) = (k : Int)) (hs : a0.size ≤ 300) (ZA : A.size ≤ maxLen) (ZB : B.size ≤ maxLen) (ZZ : Z.size ≤ maxLen) (ZS : a0.size ≤ maxLen)
    (HA : Hid (a0.extract 0 k = A)) (HB : Hid (a0.extract k a0.size = B)) (HZ : Hid (a0 ++ zstr n = Z))
    (hp : p < 4294967296) (hq : q < 4294967296) (H1 : Hid (Crc.more 0 A.data.toList = p)) (H2 : Hid (Crc.more p B.data.toList = q)) (H3 : Hid (Crc.more 0 a0.data.toList = q)) (H4 : Hid (Crc.more q (List.replicate (zn (n : Int)) 0) = r)) (H5 : Hid (Crc.more 0 Z.data.toList = r)) (H6 : Hid (Crc.more q (⟨#[]⟩ : ByteArray).data.toList = q)) :
    Calls Try.prog 4 #[.string a0, .int .u16 at_, .int .u8 n] w fun e w' => e = .returned (.bool true) ∧ Below w.heap.size w w' := by
  go_enter Try.func4, Try.ntmps4
  go_wp2_with fail
  go_loop [8, 9] (fun z i => ∃ j : Nat, j ≤ n ∧ i = .int .i64 j ∧ z = .string (zstr j)) (fun _ i => n - (intOf i).toNat)
  case atStart => exact ⟨0, Nat.zero_le _, rfl, rfl⟩
  case round =>
    obtain ⟨j, hj, rfl, rfl⟩ := hrel
    have hz := zstr_size j
    by_cases hlt : j < n
    · have Q := Lib.hid (zstr_snoc j)
      go_wp2
      go_round
      case rel => exact ⟨j + 1, by omega, by go_num, by rw [Q.out]⟩
      case measure => simp [intOf]; omega
    · obtain rfl : n = j := by omega
      go_wp2_with fail
      have eA := HA.out
      have eB := HB.out
      have eZ := HZ.out
      have hne : Nonempty (In (fun W => Below w.heap.size w W)) := ⟨⟨w, Below.refl _ _⟩⟩
      refine region_class (fun W => Below w.heap.size w W) (by kernel_rfl) (by kernel_rfl) ⟨rfl, rfl, rfl, Nat.le_refl _, fun _ _ => rfl⟩ ?_
      repeat (go_big_quiet_step (first
        | (go_at_call 10; with_reducible exact class_call _ (fun hi => sum_ge w p A _ ZA H1.out hi))
        | (go_at_call 10; with_reducible exact class_call _ (fun hi => sum_ge w q a0 _ ZS H3.out hi))
        | (go_at_call 10; with_reducible exact class_call _ (fun hi => sum_ge w r Z _ ZZ H5.out hi))
        | (go_at_call 12; with_reducible exact class_call _ (fun hi => more_ge w p q B _ hp ZB H2.out hi))
        | (go_at_call 12; with_reducible exact class_call _ (fun hi => more_ge w q q ⟨#[]⟩ _ hq (by decide) H6.out hi))
        | (go_at_call 14; with_reducible exact class_call _ (fun hi => zeros_ge w q r (n : Int) _ hq H4.out hi))
        | (go_at_call 16; with_reducible exact class_call _ (fun hi => fixed_ge w _ hi))))
      refine wpQuiet_nil ?_
      rintro _ ⟨i, rfl⟩
      go_wp2_with fail
      go_ret
      exact ⟨rfl, i.h⟩

set_option maxHeartbeats 4000000 in
set_option maxRecDepth 1000000 in
theorem long (a0 A B Z : ByteArray) (at_ : Int) (n k p q r : Nat) (w : World) (z0 : a0.size ≤ 140737488351232) (ha : ¬ (a0.size : Int) ≤ 300) (hl : (a0.extract 0 300).size = 300) (b0 : 0 ≤ at_) (b1 : at_ < 65536) (hn : (n : Int) < 256)
    (hk : (k : Int) ≤ (300 : Int)) (hidx : at_ % 301 = (k : Int)) (hs : (a0.extract 0 300).size ≤ 300) (ZA : A.size ≤ maxLen) (ZB : B.size ≤ maxLen) (ZZ : Z.size ≤ maxLen) (ZS : (a0.extract 0 300).size ≤ maxLen)
    (HA : Hid ((a0.extract 0 300).extract 0 k = A)) (HB : Hid ((a0.extract 0 300).extract k 300 = B)) (HZ : Hid ((a0.extract 0 300) ++ zstr n = Z))
    (hp : p < 4294967296) (hq : q < 4294967296) (H1 : Hid (Crc.more 0 A.data.toList = p)) (H2 : Hid (Crc.more p B.data.toList = q)) (H3 : Hid (Crc.more 0 (a0.extract 0 300).data.toList = q)) (H4 : Hid (Crc.more q (List.replicate (zn (n : Int)) 0) = r)) (H5 : Hid (Crc.more 0 Z.data.toList = r)) (H6 : Hid (Crc.more q (⟨#[]⟩ : ByteArray).data.toList = q)) :
    Calls Try.prog 4 #[.string a0, .int .u16 at_, .int .u8 n] w fun e w' => e = .returned (.bool true) ∧ Below w.heap.size w w' := by
  go_enter Try.func4, Try.ntmps4
  go_wp2_with fail
  generalize a0.extract 0 300 = S at *
  go_loop [8, 9] (fun z i => ∃ j : Nat, j ≤ n ∧ i = .int .i64 j ∧ z = .string (zstr j)) (fun _ i => n - (intOf i).toNat)
  case atStart => exact ⟨0, Nat.zero_le _, rfl, rfl⟩
  case round =>
    obtain ⟨j, hj, rfl, rfl⟩ := hrel
    have hz := zstr_size j
    by_cases hlt : j < n
    · have Q := Lib.hid (zstr_snoc j)
      go_wp2
      go_round
      case rel => exact ⟨j + 1, by omega, by go_num, by rw [Q.out]⟩
      case measure => simp [intOf]; omega
    · obtain rfl : n = j := by omega
      go_wp2_with fail
      have eA := HA.out
      have eB := HB.out
      have eZ := HZ.out
      have hne : Nonempty (In (fun W => Below w.heap.size w W)) := ⟨⟨w, Below.refl _ _⟩⟩
      refine region_class (fun W => Below w.heap.size w W) (by kernel_rfl) (by kernel_rfl) ⟨rfl, rfl, rfl, Nat.le_refl _, fun _ _ => rfl⟩ ?_
      repeat (go_big_quiet_step (first
        | (go_at_call 10; with_reducible exact class_call _ (fun hi => sum_ge w p A _ ZA H1.out hi))
        | (go_at_call 10; with_reducible exact class_call _ (fun hi => sum_ge w q S _ ZS H3.out hi))
        | (go_at_call 10; with_reducible exact class_call _ (fun hi => sum_ge w r Z _ ZZ H5.out hi))
        | (go_at_call 12; with_reducible exact class_call _ (fun hi => more_ge w p q B _ hp ZB H2.out hi))
        | (go_at_call 12; with_reducible exact class_call _ (fun hi => more_ge w q q ⟨#[]⟩ _ hq (by decide) H6.out hi))
        | (go_at_call 14; with_reducible exact class_call _ (fun hi => zeros_ge w q r (n : Int) _ hq H4.out hi))
        | (go_at_call 16; with_reducible exact class_call _ (fun hi => fixed_ge w _ hi))))
      refine wpQuiet_nil ?_
      rintro _ ⟨i, rfl⟩
      go_wp2_with fail
      go_ret
      exact ⟨rfl, i.h⟩

set_option maxHeartbeats 1000000 in
theorem walk (a0 : ByteArray) (at_ x : Int) (w0 : a0.size ≤ maxLen) (w1 : (Lit.int .u16 at_).wf = true) (w2 : (Lit.int .u8 x).wf = true) (z0 : a0.size ≤ 140737488351232) (w : World) :
    Calls Try.prog 4 #[.string a0, .int .u16 at_, .int .u8 x] w fun e w' => e = .returned (.bool true) ∧ Below w.heap.size w w' := by
  obtain ⟨b0, bb⟩ := bounds_u16 w1
  obtain ⟨bc, bd⟩ := bounds_u8 w2
  obtain ⟨n, rfl⟩ := Int.eq_ofNat_of_zero_le bc
  have b1 : at_ < 65536 := by omega
  clear bb w1 w2
  by_cases hs : (a0.size : Int) ≤ 300
  · have zs : a0.size ≤ maxLen := w0
    obtain ⟨k, hk⟩ := Int.eq_ofNat_of_zero_le (show 0 ≤ at_ % ((a0.size : Int) + 1) from Int.emod_nonneg _ (by omega))
    have hkl : at_ % ((a0.size : Int) + 1) < (a0.size : Int) + 1 := Int.emod_lt_of_pos _ (by omega)
    have zn' : zn (n : Int) = n := by have := zn_in (c := (n : Int)) (by omega) (by omega); omega
    have cutA : (a0.extract 0 k).data.toList = a0.data.toList.take k := by rw [Go.Lib.extract_data, List.drop_zero, Nat.sub_zero]
    have cutB : (a0.extract k a0.size).data.toList = a0.data.toList.drop k := by rw [Go.Lib.extract_data, List.take_of_length_le (by rw [List.length_drop, ← Go.Lib.size_eq]; omega)]
    have both : Crc.more (Crc.more 0 (a0.extract 0 k).data.toList) (a0.extract k a0.size).data.toList = Crc.more 0 a0.data.toList := by
      rw [cutA, cutB, ← Crc.more_append, List.take_append_drop]
    have zz : (a0 ++ zstr n).data.toList = a0.data.toList ++ List.replicate n 0 := by rw [ByteArray.data_append, Array.toList_append, zstr_list]
    refine short a0 _ _ _ at_ n k _ _ _ w z0 hs b0 b1 (by omega) (by omega) hk (by omega) ?_ ?_ ?_ zs (Lib.hid rfl) (Lib.hid rfl) (Lib.hid rfl) (Crc.more_lt _ (by omega)) (Crc.more_lt _ (by omega)) (Lib.hid rfl) (Lib.hid both) (Lib.hid rfl) (Lib.hid rfl) (Lib.hid ?_) (Lib.hid (Crc.more_nil _))
    · rw [ByteArray.size_extract]; unfold maxLen; omega
    · rw [ByteArray.size_extract]; unfold maxLen; omega
    · rw [ByteArray.size_append, zstr_size]; unfold maxLen; omega
    · rw [zz, Crc.more_append, zn']
  · have hl : (a0.extract 0 300).size = 300 := by rw [ByteArray.size_extract]; omega
    have zs : (a0.extract 0 300).size ≤ maxLen := by rw [hl]; unfold maxLen; omega
    obtain ⟨k, hk⟩ := Int.eq_ofNat_of_zero_le (show 0 ≤ at_ % ((300 : Int) + 1) from Int.emod_nonneg _ (by omega))
    have hkl : at_ % ((300 : Int) + 1) < (300 : Int) + 1 := Int.emod_lt_of_pos _ (by omega)
    have zn' : zn (n : Int) = n := by have := zn_in (c := (n : Int)) (by omega) (by omega); omega
    have cutA : ((a0.extract 0 300).extract 0 k).data.toList = (a0.extract 0 300).data.toList.take k := by rw [Go.Lib.extract_data, List.drop_zero, Nat.sub_zero]
    have cutB : ((a0.extract 0 300).extract k (a0.extract 0 300).size).data.toList = (a0.extract 0 300).data.toList.drop k := by rw [Go.Lib.extract_data, List.take_of_length_le (by rw [List.length_drop, ← Go.Lib.size_eq]; omega)]
    have both : Crc.more (Crc.more 0 ((a0.extract 0 300).extract 0 k).data.toList) ((a0.extract 0 300).extract k (a0.extract 0 300).size).data.toList = Crc.more 0 (a0.extract 0 300).data.toList := by
      rw [cutA, cutB, ← Crc.more_append, List.take_append_drop]
    have zz : ((a0.extract 0 300) ++ zstr n).data.toList = (a0.extract 0 300).data.toList ++ List.replicate n 0 := by rw [ByteArray.data_append, Array.toList_append, zstr_list]
    rw [hl] at both
    refine long a0 _ _ _ at_ n k _ _ _ w z0 hs hl b0 b1 (by omega) (by omega) hk (by omega) ?_ ?_ ?_ zs (Lib.hid rfl) (Lib.hid rfl) (Lib.hid rfl) (Crc.more_lt _ (by omega)) (Crc.more_lt _ (by omega)) (Lib.hid rfl) (Lib.hid both) (Lib.hid rfl) (Lib.hid rfl) (Lib.hid ?_) (Lib.hid (Crc.more_nil _))
    · rw [ByteArray.size_extract]; unfold maxLen; omega
    · rw [ByteArray.size_extract]; unfold maxLen; omega
    · rw [ByteArray.size_append, zstr_size]; unfold maxLen; omega
    · rw [zz, Crc.more_append, zn']

set_option maxRecDepth 100000 in
theorem lifted (os : Os) (started : os.Started) (H : Type) (enc : TypeId × Value → H) :
    ReturnsInHanded {} Try.checked os 4 .any (Rows.crcPartsSpec.pre6 enc Try.prog Try.f4 Rows.crcPartsRow.domain false) (Rows.crcPartsSpec.post enc Try.prog Try.f4 false true false false) := by
  refine returnsInHanded_of_change_sized (C := Try.checked) own started (by kernel_rfl) Try.func4
    (ChangeSpec.witness6 (enc := enc) (C := Try.checked) false ⟨#[], #[.string ByteArray.empty, .int .u16 0, .int .u8 0], []⟩ 8 (by kernel_rfl) (by kernel_rfl) (by kernel_rfl) (by kernel_rfl)) ?_
  intro W base args ds gs before hval0 hW hcnd hsz0 _
  have hsz : (DataW.weightsEach Try.prog (Try.f4.params.toList ++ Rows.crcPartsSpec.plain.varTypes Try.prog) (ds ++ gs)).all (· ≤ reachBytes) = true := hsz0
  clear hsz0
  have hval : ∀ (j : Nat) t v, Try.f4.params[j]? = some t → args[j]? = some v → Value.okWide Try.prog W .any base t v := hval0
  have hW' := hW
  obtain ⟨p, q, hA0, hV, rfl, hfz, hnd⟩ := hW
  have hA : DataW.TrodAll enc Try.prog W 0 (fun _ => true) true Try.f4.params.toList args.toList ds p := hA0
  rw [Try.params4] at hA hval hsz
  obtain ⟨v0, vs0, d0, ds0, p0, q0, hargs, rfl, rfl, h0, r0⟩ := trodAll_cons hA
  obtain ⟨v1, vs1, d1, ds1, p1, q1, rfl, rfl, rfl, h1, r1⟩ := trodAll_cons r0
  obtain ⟨v2, vs2, d2, ds2, p2, q2, rfl, rfl, rfl, h2, r2⟩ := trodAll_cons r1
  obtain ⟨rfl, rfl, rfl⟩ := trodAll_nil r2
  obtain rfl : args = #[v0, v1, v2] := by cases args; simp_all
  obtain ⟨rfl, rfl⟩ := trodVars_none hV
  obtain ⟨a0, rfl, rfl, rfl, w0⟩ := open_string Try.underlying9 (hval 0 9 v0 rfl rfl) h0
  obtain ⟨a1, rfl, rfl, rfl, w1⟩ := open_int Try.underlying28 (hval 1 28 v1 rfl rfl) h1
  obtain ⟨a2, rfl, rfl, rfl, w2⟩ := open_int Try.underlying5 (hval 2 5 v2 rfl rfl) h2
  have z0 : a0.size ≤ 140737488351232 := by
    have := sized_string hsz (j := 0) (t := 9) rfl rfl
    rw [Go.Lib.size_eq]; exact this
  clear hA0 hval0
  simp only [List.append_nil] at hW'
  refine (walk a0 a1 a2 w0 w1 w2 z0 W).mono fun e W' ⟨he, hg⟩ => ?_
  subst he
  exact ⟨_, rfl, post_plain hW' (fun _ _ _ => (trodAll_cons_mk (shut_bool Try.underlying4 _) trodAll_mk0)) (fun sp => (trodAll_cons_mk (shut_string Try.underlying9 w0) (trodAll_cons_mk (shut_int Try.underlying28 w1) (trodAll_cons_mk (shut_int Try.underlying5 w2) trodAll_mk0)))) (fun _ => rfl) hg (ok_one (by kernel_rfl) rfl (okWide_bool_mk Try.underlying4 _))⟩

theorem over : Rows.crcPartsRow.holds Try.pinned (OpenSpec.ofChange Rows.crcPartsSpec) :=
  OpenClaim.holds_of_wide 4 Try.f4 rfl rfl rfl rfl rfl rfl rfl ⟨rfl, rfl, rfl, rfl, rfl⟩ rfl rfl rfl rfl rfl (by kernel_rfl) Try.func4 (by kernel_rfl)
    (of_decide_eq_true (by kernel_rfl)) (by unfold Func.isWrapper; first | (rw [if_pos (by decide +kernel)]; kernel_rfl) | (rw [if_neg (by decide +kernel)]; exact ⟨rfl, rfl⟩))
    (fun os started H enc _ => lifted os started H enc)

theorem proved : Rows.CrcPartsSaid := over
#print axioms proved
end Go.Proofs.Ythppijlfaoegpaa.crcParts
