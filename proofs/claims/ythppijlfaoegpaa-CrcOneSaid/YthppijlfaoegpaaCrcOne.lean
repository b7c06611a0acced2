/- For every string, every place and every byte the statement CrcOne about crc.Sum returns true, and changes nothing. Conditions: none. -/
import Derived.Test.YthppijlfaoegpaaCrcS
import Derived.Test.YthppijlfaoegpaaClass
import Derived.Test.YthppijlfaoegpaaFrame
import Derived.Test.YthppijlfaoegpaaArr
import Derived.Deep.QuietTactic
import Derived.BigQuiet
import Derived.StillTailTactics
import Derived.WalkSmall
import Derived.Deep.DeepCutAuto
import Derived.Deep.RegionWith
import Derived.Deep.LoopGhost
import Derived.ProofKit
import Derived.OpenShut
import Derived.ShutString
import Derived.SizedLaws
namespace Go.Proofs.Ythppijlfaoegpaa.crcOne
open Go.ChangeShapes Go.WideShapes Go.ChangeAt Go.RowKit Go.Lib
open Go.ChangeMaps (open_string shut_string)
set_option linter.unusedVariables false

theorem own : ownKnob Try.prog.godebug = none := by kernel_rfl

set_option maxHeartbeats 1000000 in
set_option maxRecDepth 1000000 in
theorem short_zero (a0 : ByteArray) (at_ x : Int) (w : World) (z0 : a0.size ≤ 140737488351232) (hs : (a0.size : Int) ≤ 300) (h : a0.size = 0 ∨ x = 0) :
    Calls Try.prog 6 #[.string a0, .int .u16 at_, .int .u8 x] w fun e w' => e = .returned (.bool true) ∧ Below w.heap.size w w' := by
  by_cases h0 : a0.size = 0
  · have e0 : ((a0.size : Int) == 0) = true := by rw [h0]; rfl
    have h0' : (a0.size : Int) = 0 := by omega
    clear h h0
    go_enter Try.func6, Try.ntmps6
    go_wp2_with fail
    refine (fixed_any _).mono ?_
    rintro e w1 ⟨rfl, h1⟩
    go_wp2_with fail
    go_ret
    exact ⟨rfl, h1⟩
  · obtain rfl : x = 0 := by omega
    have e0 : ((a0.size : Int) == 0) = false := by rw [beq_eq_false_iff_ne]; omega
    clear h h0
    go_enter Try.func6, Try.ntmps6
    go_wp2_with fail
    refine (fixed_any _).mono ?_
    rintro e w1 ⟨rfl, h1⟩
    go_wp2_with fail
    go_ret
    exact ⟨rfl, h1⟩

set_option maxRecDepth 1000000 in
set_option maxHeartbeats 1000000 in
theorem short (a0 S' : ByteArray) (at_ : Int) (x i c d m1 m2 cap : Nat) (w W1 : World) (z0 : a0.size ≤ 140737488351232) (hs : (a0.size : Int) ≤ 300) (hx0 : ¬ (x : Int) = 0) (hx : (x : Int) < 256) (b0 : 0 ≤ at_) (b1 : at_ < 65536) (hp : ¬ (a0.size : Int) = 0)
    (hi : (i : Int) < a0.size) (hidx : at_ % (a0.size : Int) = (i : Int))
    (hconv : (convert 9 30 (.string a0)).run Try.prog w = .ok (.slice (some ⟨w.heap.size, 0, none⟩) a0.size cap) W1)
    (cell : W1.cell? ⟨w.heap.size, i, none⟩ = some (.int .u8 (c : Int))) (free : W1.frozen? ⟨w.heap.size, i, none⟩ = false)
    (X8 : bits .xor .u8 (c : Int) (x : Int) = (d : Int))
    (hback : (convert 30 9 (.slice (some ⟨w.heap.size, 0, none⟩) a0.size cap)).run Try.prog (W1.setCell ⟨w.heap.size, i, none⟩ (.int .u8 (d : Int))) = .ok (.string S') (W1.setCell ⟨w.heap.size, i, none⟩ (.int .u8 (d : Int))))
    (HB : Hid (Below w.heap.size w (W1.setCell ⟨w.heap.size, i, none⟩ (.int .u8 (d : Int)))))
    (zs : a0.size ≤ maxLen) (zs' : S'.size ≤ maxLen) (H1 : Hid (Crc.more 0 S'.data.toList = m1)) (H2 : Hid (Crc.more 0 a0.data.toList = m2)) (ne : ((m1 : Int) != (m2 : Int)) = true) :
    Calls Try.prog 6 #[.string a0, .int .u16 at_, .int .u8 x] w fun e w' => e = .returned (.bool true) ∧ Below w.heap.size w w' := by
  have hp' : 0 < (a0.size : Int) := by omega
  have e0 : ((a0.size : Int) == 0) = false := by rw [beq_eq_false_iff_ne]; omega
  have ex : ((x : Int) == 0) = false := by rw [beq_eq_false_iff_ne]; omega
  go_enter Try.func6, Try.ntmps6
  go_wp2_with fail
  refine (sum_ge w m1 S' _ zs' H1.out HB.out).mono ?_
  rintro e w1 ⟨rfl, h1⟩
  go_wp2_with fail
  refine (sum_ge w m2 a0 _ zs H2.out h1).mono ?_
  rintro e w2 ⟨rfl, h2⟩
  go_wp2_with fail
  refine (fixed_ge w _ h2).mono ?_
  rintro e w3 ⟨rfl, h3⟩
  go_wp2_with fail
  go_ret
  exact ⟨rfl, h3⟩

set_option maxHeartbeats 1000000 in
set_option maxRecDepth 1000000 in
theorem long_zero (a0 : ByteArray) (at_ x : Int) (w : World) (z0 : a0.size ≤ 140737488351232) (hs : ¬ (a0.size : Int) ≤ 300) (hl : (a0.extract 0 300).size = 300) (h : (a0.extract 0 300).size = 0 ∨ x = 0) :
    Calls Try.prog 6 #[.string a0, .int .u16 at_, .int .u8 x] w fun e w' => e = .returned (.bool true) ∧ Below w.heap.size w w' := by
  obtain rfl : x = 0 := by omega
  clear h
  go_enter Try.func6, Try.ntmps6
  go_wp2_with fail
  refine (fixed_any _).mono ?_
  rintro e w1 ⟨rfl, h1⟩
  go_wp2_with fail
  go_ret
  exact ⟨rfl, h1⟩

set_option maxRecDepth 1000000 in
set_option maxHeartbeats 1000000 in
theorem long (a0 S' : ByteArray) (at_ : Int) (x i c d m1 m2 cap : Nat) (w W1 : World) (z0 : a0.size ≤ 140737488351232) (hs : ¬ (a0.size : Int) ≤ 300) (hl : (a0.extract 0 300).size = 300) (hx0 : ¬ (x : Int) = 0) (hx : (x : Int) < 256) (b0 : 0 ≤ at_) (b1 : at_ < 65536) 
    (hi : (i : Int) < 300) (hidx : at_ % 300 = (i : Int))
    (hconv : (convert 9 30 (.string (a0.extract 0 300))).run Try.prog w = .ok (.slice (some ⟨w.heap.size, 0, none⟩) 300 cap) W1)
    (cell : W1.cell? ⟨w.heap.size, i, none⟩ = some (.int .u8 (c : Int))) (free : W1.frozen? ⟨w.heap.size, i, none⟩ = false)
    (X8 : bits .xor .u8 (c : Int) (x : Int) = (d : Int))
    (hback : (convert 30 9 (.slice (some ⟨w.heap.size, 0, none⟩) 300 cap)).run Try.prog (W1.setCell ⟨w.heap.size, i, none⟩ (.int .u8 (d : Int))) = .ok (.string S') (W1.setCell ⟨w.heap.size, i, none⟩ (.int .u8 (d : Int))))
    (HB : Hid (Below w.heap.size w (W1.setCell ⟨w.heap.size, i, none⟩ (.int .u8 (d : Int)))))
    (zs : (a0.extract 0 300).size ≤ maxLen) (zs' : S'.size ≤ maxLen) (H1 : Hid (Crc.more 0 S'.data.toList = m1)) (H2 : Hid (Crc.more 0 (a0.extract 0 300).data.toList = m2)) (ne : ((m1 : Int) != (m2 : Int)) = true) :
    Calls Try.prog 6 #[.string a0, .int .u16 at_, .int .u8 x] w fun e w' => e = .returned (.bool true) ∧ Below w.heap.size w w' := by
  have ex : ((x : Int) == 0) = false := by rw [beq_eq_false_iff_ne]; omega
  go_enter Try.func6, Try.ntmps6
  go_wp2_with fail
  refine (sum_ge w m1 S' _ zs' H1.out HB.out).mono ?_
  rintro e w1 ⟨rfl, h1⟩
  go_wp2_with fail
  refine (sum_ge w m2 (a0.extract 0 300) _ zs H2.out h1).mono ?_
  rintro e w2 ⟨rfl, h2⟩
  go_wp2_with fail
  refine (fixed_ge w _ h2).mono ?_
  rintro e w3 ⟨rfl, h3⟩
  go_wp2_with fail
  go_ret
  exact ⟨rfl, h3⟩

set_option maxHeartbeats 1000000 in
theorem walk (a0 : ByteArray) (at_ x : Int) (w0 : a0.size ≤ maxLen) (w1 : (Lit.int .u16 at_).wf = true) (w2 : (Lit.int .u8 x).wf = true) (z0 : a0.size ≤ 140737488351232) (w : World) :
    Calls Try.prog 6 #[.string a0, .int .u16 at_, .int .u8 x] w fun e w' => e = .returned (.bool true) ∧ Below w.heap.size w w' := by
  obtain ⟨b0, bb⟩ := bounds_u16 w1
  obtain ⟨bc, bd⟩ := bounds_u8 w2
  obtain ⟨x, rfl⟩ := Int.eq_ofNat_of_zero_le bc
  have b1 : at_ < 65536 := by omega
  clear bb w1 w2
  by_cases hs : (a0.size : Int) ≤ 300
  · have zs : a0.size ≤ maxLen := w0
    by_cases hz : a0.size = 0 ∨ x = 0
    · exact short_zero a0 at_ x w z0 hs (by omega)
    · have hp : 0 < a0.size := by omega
      obtain ⟨i, hi⟩ := Int.eq_ofNat_of_zero_le (show 0 ≤ at_ % (a0.size : Int) from Int.emod_nonneg _ (by omega))
      have hlt : at_ % (a0.size : Int) < a0.size := Int.emod_lt_of_pos _ (by omega)
      have hil : i < a0.data.toList.length := by rw [← Go.Lib.size_eq]; omega
      obtain ⟨cap, W1, hconv, hrow, hbel⟩ := bytes_new w a0
      have hset := hrow.set i hil ((a0.data.toList.getD i 0) ^^^ UInt8.ofNat x)
      have hback := bytes_back (cap := cap) hset
      rw [List.length_set, ← Go.Lib.size_eq] at hback
      have e8 : ((a0.data.toList.getD i 0) ^^^ UInt8.ofNat x).toNat = (a0.data.toList.getD i 0).toNat ^^^ x := by
        rw [UInt8.toNat_xor, UInt8.toNat_ofNat_of_lt' (show x < 256 by omega)]
      have X8 := u8_xor_nat (a0.data.toList.getD i 0).toNat x (UInt8.toNat_lt _) (by omega)
      rw [← e8] at X8
      refine short a0 _ at_ x i _ _ _ _ cap w W1 z0 hs (by omega) (by omega) b0 b1 (by omega) (by omega) hi hconv (hrow.cell i hil) (hrow.free i hil) X8 hback (Lib.hid (hbel.setCell (Nat.le_refl _) _)) zs ?_ (Lib.hid rfl) (Lib.hid rfl) ?_
      · rw [Go.Lib.size_eq, List.toList_toArray, List.length_set, ← Go.Lib.size_eq]; exact zs
      · rw [bne_iff_ne]
        intro he
        have hm : Crc.more 0 (a0.data.toList.set i ((a0.data.toList.getD i 0) ^^^ UInt8.ofNat x)) = Crc.more 0 a0.data.toList := by
          rw [List.toList_toArray] at he
          omega
        have hq := burst_eq _ _ i (by rw [List.length_set]) (List.take_set_of_le (Nat.le_refl _)) (List.drop_set_of_lt (by omega)) hm
        have hg : (a0.data.toList.set i ((a0.data.toList.getD i 0) ^^^ UInt8.ofNat x)).getD i 0 = a0.data.toList.getD i 0 := by rw [hq]
        rw [List.getD_eq_getElem?_getD, List.getElem?_set_self hil] at hg
        have hn : ((a0.data.toList.getD i 0) ^^^ UInt8.ofNat x).toNat = (a0.data.toList.getD i 0).toNat := by rw [show (a0.data.toList.getD i 0) ^^^ UInt8.ofNat x = a0.data.toList.getD i 0 from hg]
        rw [e8] at hn
        have : x = 0 := Crc.xor_injl (c := (a0.data.toList.getD i 0).toNat) (by rw [hn, Nat.xor_zero])
        omega
  · have hl : (a0.extract 0 300).size = 300 := by rw [ByteArray.size_extract]; omega
    have zs : (a0.extract 0 300).size ≤ maxLen := by rw [hl]; unfold maxLen; omega
    by_cases hz : (a0.extract 0 300).size = 0 ∨ x = 0
    · exact long_zero a0 at_ x w z0 hs hl (by omega)
    · have hp : 0 < (a0.extract 0 300).size := by omega
      obtain ⟨i, hi⟩ := Int.eq_ofNat_of_zero_le (show 0 ≤ at_ % ((a0.extract 0 300).size : Int) from Int.emod_nonneg _ (by omega))
      have hlt : at_ % ((a0.extract 0 300).size : Int) < (a0.extract 0 300).size := Int.emod_lt_of_pos _ (by omega)
      have hil : i < (a0.extract 0 300).data.toList.length := by rw [← Go.Lib.size_eq]; omega
      obtain ⟨cap, W1, hconv, hrow, hbel⟩ := bytes_new w (a0.extract 0 300)
      have hset := hrow.set i hil (((a0.extract 0 300).data.toList.getD i 0) ^^^ UInt8.ofNat x)
      have hback := bytes_back (cap := cap) hset
      rw [List.length_set, ← Go.Lib.size_eq] at hback
      have e8 : (((a0.extract 0 300).data.toList.getD i 0) ^^^ UInt8.ofNat x).toNat = ((a0.extract 0 300).data.toList.getD i 0).toNat ^^^ x := by
        rw [UInt8.toNat_xor, UInt8.toNat_ofNat_of_lt' (show x < 256 by omega)]
      have X8 := u8_xor_nat ((a0.extract 0 300).data.toList.getD i 0).toNat x (UInt8.toNat_lt _) (by omega)
      rw [← e8] at X8
      rw [hl] at hconv hback hi hlt
      refine long a0 _ at_ x i _ _ _ _ cap w W1 z0 hs hl (by omega) (by omega) b0 b1 (by omega) hi hconv (hrow.cell i hil) (hrow.free i hil) X8 hback (Lib.hid (hbel.setCell (Nat.le_refl _) _)) zs ?_ (Lib.hid rfl) (Lib.hid rfl) ?_
      · rw [Go.Lib.size_eq, List.toList_toArray, List.length_set, ← Go.Lib.size_eq]; exact zs
      · rw [bne_iff_ne]
        intro he
        have hm : Crc.more 0 ((a0.extract 0 300).data.toList.set i (((a0.extract 0 300).data.toList.getD i 0) ^^^ UInt8.ofNat x)) = Crc.more 0 (a0.extract 0 300).data.toList := by
          rw [List.toList_toArray] at he
          omega
        have hq := burst_eq _ _ i (by rw [List.length_set]) (List.take_set_of_le (Nat.le_refl _)) (List.drop_set_of_lt (by omega)) hm
        have hg : ((a0.extract 0 300).data.toList.set i (((a0.extract 0 300).data.toList.getD i 0) ^^^ UInt8.ofNat x)).getD i 0 = (a0.extract 0 300).data.toList.getD i 0 := by rw [hq]
        rw [List.getD_eq_getElem?_getD, List.getElem?_set_self hil] at hg
        have hn : (((a0.extract 0 300).data.toList.getD i 0) ^^^ UInt8.ofNat x).toNat = ((a0.extract 0 300).data.toList.getD i 0).toNat := by rw [show ((a0.extract 0 300).data.toList.getD i 0) ^^^ UInt8.ofNat x = (a0.extract 0 300).data.toList.getD i 0 from hg]
        rw [e8] at hn
        have : x = 0 := Crc.xor_injl (c := ((a0.extract 0 300).data.toList.getD i 0).toNat) (by rw [hn, Nat.xor_zero])
        omega

set_option maxRecDepth 100000 in
theorem lifted (os : Os) (started : os.Started) (H : Type) (enc : TypeId × Value → H) :
    ReturnsInHanded {} Try.checked os 6 .any (Rows.crcOneSpec.pre6 enc Try.prog Try.f6 Rows.crcOneRow.domain false) (Rows.crcOneSpec.post enc Try.prog Try.f6 false true false false) := by
  refine returnsInHanded_of_change_sized (C := Try.checked) own started (by kernel_rfl) Try.func6
    (ChangeSpec.witness6 (enc := enc) (C := Try.checked) false ⟨#[], #[.string ByteArray.empty, .int .u16 0, .int .u8 0], []⟩ 8 (by kernel_rfl) (by kernel_rfl) (by kernel_rfl) (by kernel_rfl)) ?_
  intro W base args ds gs before hval0 hW hcnd hsz0 _
  have hsz : (DataW.weightsEach Try.prog (Try.f6.params.toList ++ Rows.crcOneSpec.plain.varTypes Try.prog) (ds ++ gs)).all (· ≤ reachBytes) = true := hsz0
  clear hsz0
  have hval : ∀ (j : Nat) t v, Try.f6.params[j]? = some t → args[j]? = some v → Value.okWide Try.prog W .any base t v := hval0
  have hW' := hW
  obtain ⟨p, q, hA0, hV, rfl, hfz, hnd⟩ := hW
  have hA : DataW.TrodAll enc Try.prog W 0 (fun _ => true) true Try.f6.params.toList args.toList ds p := hA0
  rw [Try.params6] at hA hval hsz
  obtain ⟨v0, vs0, d0, ds0, p0, q0, hargs, rfl, rfl, h0, r0⟩ := trodAll_cons hA
  obtain ⟨v1, vs1, d1, ds1, p1, q1, rfl, rfl, rfl, h1, r1⟩ := trodAll_cons r0
  obtain ⟨v2, vs2, d2, ds2, p2, q2, rfl, rfl, rfl, h2, r2⟩ := trodAll_cons r1
  obtain ⟨rfl, rfl, rfl⟩ := trodAll_nil r2
  obtain rfl : args = #[v0, v1, v2] := by cases args; simp_all
  obtain ⟨rfl, rfl⟩ := trodVars_none hV
  obtain ⟨a0, rfl, rfl, rfl, w0⟩ := open_string Try.underlying9 (hval 0 9 v0 rfl rfl) h0
  obtain ⟨a1, rfl, rfl, rfl, w1⟩ := open_int Try.underlying28 (hval 1 28 v1 rfl rfl) h1
  obtain ⟨a2, rfl, rfl, rfl, w2⟩ := open_int Try.underlying5 (hval 2 5 v2 rfl rfl) h2
  have z0 : a0.size ≤ 140737488351232 := by
    have := sized_string hsz (j := 0) (t := 9) rfl rfl
    rw [Go.Lib.size_eq]; exact this
  clear hA0 hval0
  simp only [List.append_nil] at hW'
  refine (walk a0 a1 a2 w0 w1 w2 z0 W).mono fun e W' ⟨he, hg⟩ => ?_
  subst he
  exact ⟨_, rfl, post_plain hW' (fun _ _ _ => (trodAll_cons_mk (shut_bool Try.underlying4 _) trodAll_mk0)) (fun sp => (trodAll_cons_mk (shut_string Try.underlying9 w0) (trodAll_cons_mk (shut_int Try.underlying28 w1) (trodAll_cons_mk (shut_int Try.underlying5 w2) trodAll_mk0)))) (fun _ => rfl) hg (ok_one (by kernel_rfl) rfl (okWide_bool_mk Try.underlying4 _))⟩

theorem over : Rows.crcOneRow.holds Try.pinned (OpenSpec.ofChange Rows.crcOneSpec) :=
  OpenClaim.holds_of_wide 6 Try.f6 rfl rfl rfl rfl rfl rfl rfl ⟨rfl, rfl, rfl, rfl, rfl⟩ rfl rfl rfl rfl rfl (by kernel_rfl) Try.func6 (by kernel_rfl)
    (of_decide_eq_true (by kernel_rfl)) (by unfold Func.isWrapper; first | (rw [if_pos (by decide +kernel)]; kernel_rfl) | (rw [if_neg (by decide +kernel)]; exact ⟨rfl, rfl⟩))
    (fun os started H enc _ => lifted os started H enc)

theorem proved : Rows.CrcOneSaid := over
#print axioms proved
end Go.Proofs.Ythppijlfaoegpaa.crcOne
