/- For every number n and every string s the statement WordBack about word.Put and word.Get returns true, and changes nothing that was there. Conditions: none. -/
import Derived.Test.YtalhpiljenhcaaaWordF
import Derived.Test.YtalhpiljenhcaaaFrame
import Derived.Deep.QuietTactic
import Derived.BigQuiet
import Derived.StillTailTactics
import Derived.WalkSmall
import Derived.Deep.DeepCutAuto
import Derived.Deep.RegionWith
import Derived.Deep.LoopGhost
import Derived.ProofKit
import Derived.OpenShut
import Derived.ShutString
import Derived.SizedLaws
namespace Go.Proofs.Ytalhpiljenhcaaa.wordBack
open Go.ChangeShapes Go.WideShapes Go.ChangeAt Go.RowKit Go.Lib
open Go.ChangeMaps (open_string shut_string)
set_option linter.unusedVariables false

theorem own : ownKnob Try.prog.godebug = none := by kernel_rfl

/-- 256 to the power k, as a number below 2^64. -/
def restI (k : Nat) : Int := (256 ^ k % 18446744073709551616 : Nat)

theorem restI_bd (k : Nat) (h : k < 8) : 1 ≤ restI k ∧ restI k < 18446744073709551616 := by
  match k, h with
  | 0, _ => decide
  | 1, _ => decide
  | 2, _ => decide
  | 3, _ => decide
  | 4, _ => decide
  | 5, _ => decide
  | 6, _ => decide
  | 7, _ => decide

theorem restI_next (k : Nat) (h : k < 8) : IntKind.u64.wrap (restI k * 256) = restI (k + 1) := by
  rw [IntKind.wrap_u64]
  match k, h with
  | 0, _ => decide
  | 1, _ => decide
  | 2, _ => decide
  | 3, _ => decide
  | 4, _ => decide
  | 5, _ => decide
  | 6, _ => decide
  | 7, _ => decide

theorem clampN_nat (k : Nat) (h : k ≤ 8) : clampN (k : Int) = k := by
  rw [clampN_in (by omega) (by omega), Int.toNat_natCast]

theorem back_mod (a : Int) (k : Nat) (ha : 0 ≤ a) (h : k < 8) : (getN (⟨(putL a.toNat (clampN (k : Int))).toArray⟩ : ByteArray).data.toList : Int) = a % restI k := by
  rw [toL, clampN_nat k (by omega)]
  unfold getN restI
  rw [List.take_of_length_le (by rw [putL_length]; omega), leN_putL]
  have e : 256 ^ k % 18446744073709551616 = 256 ^ k := by
    apply Nat.mod_eq_of_lt
    calc 256 ^ k ≤ 256 ^ 7 := Nat.pow_le_pow_right (by omega) (by omega)
      _ < 18446744073709551616 := by decide
  rw [e, Int.natCast_emod, Int.toNat_of_nonneg ha]

theorem back_all (a : Int) (s : ByteArray) (ha : 0 ≤ a) (ha' : a ≤ 18446744073709551615) : (getN ((⟨(putL a.toNat (clampN 8)).toArray⟩ : ByteArray) ++ s).data.toList : Int) = a := by
  rw [ByteArray.data_append, Array.toList_append, toL]
  have e8 : clampN 8 = 8 := rfl
  rw [e8]
  unfold getN
  have hl := putL_length 8 a.toNat
  rw [List.take_append_of_le_length (by omega), List.take_of_length_le (by omega), leN_putL]
  omega

theorem back_short (s : ByteArray) (g : Int) (hs : s.size ≤ 8) (hg : (getN s.data.toList : Int) = g) : (⟨(putL g.toNat (clampN (s.size : Int))).toArray⟩ : ByteArray) = s := by
  subst hg
  rw [clampN_nat _ hs, Int.toNat_natCast, size_eq]
  rw [size_eq] at hs
  unfold getN
  rw [List.take_of_length_le hs, putL_leN]

theorem back_long (s : ByteArray) (g : Int) (hs : 8 < s.size) (hg : (getN s.data.toList : Int) = g) : (⟨(putL g.toNat (clampN 8)).toArray⟩ : ByteArray) = s.extract 0 8 := by
  subst hg
  have e8 : clampN 8 = 8 := rfl
  rw [size_eq] at hs
  rw [e8, Int.toNat_natCast]
  unfold getN
  have hl : (s.data.toList.take 8).length = 8 := by rw [List.length_take]; omega
  have h := putL_leN (s.data.toList.take 8)
  rw [hl] at h
  rw [h]
  apply ByteArray.ext
  rw [ByteArray.data_extract]
  apply Array.toList_inj.1
  simp

set_option maxHeartbeats 4000000 in
theorem short (a0 : Int) (a1 : ByteArray) (ba0 : 0 ≤ a0) (ba1 : a0 ≤ 18446744073709551615) (z1 : a1.size ≤ 140737488351232) (hs : a1.size ≤ 8) (w : World) :
    Calls Try.prog 4 #[.int .u64 a0, .string a1] w fun e w' => e = .returned (.bool true) ∧ Below w.heap.size w w' := by
  obtain ⟨r, R⟩ : ∃ r, Hid ((⟨(putL a0.toNat (clampN 8)).toArray⟩ : ByteArray) = r) := ⟨_, rfl⟩
  have zr : r.size ≤ 8 := by rw [← R.out, put_size]; decide
  have B1 : Hid ((getN (r ++ a1).data.toList : Int) = a0) := by rw [← R.out]; exact back_all a0 a1 ba0 ba1
  obtain ⟨g, G⟩ : ∃ g : Int, Hid ((getN a1.data.toList : Int) = g) := ⟨_, rfl⟩
  have g0 : 0 ≤ g := by rw [← G.out]; omega
  have g1 : g < 18446744073709551616 := by rw [← G.out]; have := getN_lt a1.data.toList; omega
  have hb : Below w.heap.size w w := Below.refl _ _
  have T : Hid ((⟨(putL g.toNat (clampN (a1.size : Int))).toArray⟩ : ByteArray) = a1) := back_short a1 g hs G.out
  have hsi : (a1.size : Int) ≤ 8 := by omega
  go_enter Try.func4, Try.ntmps4
  go_upto_region 2 with fail
  go_cut [27] (fun s27 wx => s27 = .bool false ∧ Below w.heap.size w wx)
  case first =>
    go_region_with (first
      | (go_at_call_of 14 (Value.int IntKind.u64 a0); refine (put_ge w a0 8 r _ ba0 (by omega) R.out ?_).mono ?_; (exact ⟨hb.os, hb.tape, hb.output, hb.size, hb.block⟩); rintro e w' ⟨rfl, hb⟩)
      | (go_at_call_of 16 (Value.string (r ++ a1)); refine (get_ge w _ a0 _ B1.out ?_).mono ?_; (exact ⟨hb.os, hb.tape, hb.output, hb.size, hb.block⟩); rintro e w' ⟨rfl, hb⟩)
      | (go_at_call_of 16 (Value.string a1); refine (get_ge w _ g _ G.out ?_).mono ?_; (exact ⟨hb.os, hb.tape, hb.output, hb.size, hb.block⟩); rintro e w' ⟨rfl, hb⟩)
      | (go_at_call_of 14 (Value.int IntKind.u64 g); refine (put_ge w g _ _ _ g0 g1 T.out ?_).mono ?_; (exact ⟨hb.os, hb.tape, hb.output, hb.size, hb.block⟩); rintro e w' ⟨rfl, hb⟩))
    all_goals (go_wp2_with fail; go_meet; exact ⟨rfl, ⟨hb.os, hb.tape, hb.output, hb.size, hb.block⟩⟩)
  case rest =>
    obtain ⟨rfl, hc⟩ := hcut
    clear hb
    go_wp2_with fail
    go_loopg [6, 7] 8 (fun gk s6 s7 wr => ∃ k : Nat, k ≤ 8 ∧ gk = 8 - k ∧ s7 = .int .i64 k ∧ s6 = .int .u64 (restI k) ∧ Below w.heap.size w wr)
    case atStart => exact ⟨0, by omega, rfl, rfl, rfl, hc⟩
    case round =>
      obtain ⟨k, hk, hgk, rfl, rfl, hb⟩ := hrel
      have HG := Lib.hid hgk
      clear hgk
      by_cases hlt : k < 8
      · have hki : (k : Int) < 8 := by omega
        obtain ⟨p1, p2⟩ := restI_bd k hlt
        obtain ⟨s, S⟩ : ∃ s, Hid ((⟨(putL a0.toNat (clampN (k : Int))).toArray⟩ : ByteArray) = s) := ⟨_, rfl⟩
        have zs : s.size = k := by rw [← S.out, put_size]; exact clampN_nat k (by omega)
        have GS : Hid ((getN s.data.toList : Int) = a0 % restI k) := by rw [← S.out]; exact back_mod a0 k ba0 hlt
        have N := Lib.hid (restI_next k hlt)
        generalize restI k = p at *
        go_upto_region 8 with fail
        go_cut [47] (fun s47 wx => s47 = .bool false ∧ Below w.heap.size w wx)
        case first =>
          go_region_with (first
            | (go_at_call 14; refine (put_ge w a0 _ s _ ba0 (by omega) S.out ?_).mono ?_; (exact ⟨hb.os, hb.tape, hb.output, hb.size, hb.block⟩); rintro e w' ⟨rfl, hb⟩)
            | (go_at_call 16; refine (get_ge w _ _ _ GS.out ?_).mono ?_; (exact ⟨hb.os, hb.tape, hb.output, hb.size, hb.block⟩); rintro e w' ⟨rfl, hb⟩))
          all_goals (go_wp2_with fail; go_meet; exact ⟨rfl, ⟨hb.os, hb.tape, hb.output, hb.size, hb.block⟩⟩)
        case rest =>
          obtain ⟨rfl, hb2⟩ := hcut
          go_wp2_with fail
          go_roundg (8 - (k + 1))
          case measure => have := HG.out; omega
          case rel => exact ⟨k + 1, by omega, rfl, by go_num, by rw [← N.out], hb2⟩
      · go_wp2_with fail
        refine (fixed_any _).mono ?_
        rintro e w3 ⟨rfl, h3⟩
        go_wp2_with fail
        go_ret
        exact ⟨rfl, hb.trans (h3.mono hb.size)⟩

set_option maxHeartbeats 4000000 in
theorem long (a0 : Int) (a1 : ByteArray) (ba0 : 0 ≤ a0) (ba1 : a0 ≤ 18446744073709551615) (z1 : a1.size ≤ 140737488351232) (hs2 : 8 < a1.size) (w : World) :
    Calls Try.prog 4 #[.int .u64 a0, .string a1] w fun e w' => e = .returned (.bool true) ∧ Below w.heap.size w w' := by
  obtain ⟨r, R⟩ : ∃ r, Hid ((⟨(putL a0.toNat (clampN 8)).toArray⟩ : ByteArray) = r) := ⟨_, rfl⟩
  have zr : r.size ≤ 8 := by rw [← R.out, put_size]; decide
  have B1 : Hid ((getN (r ++ a1).data.toList : Int) = a0) := by rw [← R.out]; exact back_all a0 a1 ba0 ba1
  obtain ⟨g, G⟩ : ∃ g : Int, Hid ((getN a1.data.toList : Int) = g) := ⟨_, rfl⟩
  have g0 : 0 ≤ g := by rw [← G.out]; omega
  have g1 : g < 18446744073709551616 := by rw [← G.out]; have := getN_lt a1.data.toList; omega
  have hb : Below w.heap.size w w := Below.refl _ _
  have T : Hid ((⟨(putL g.toNat (clampN 8)).toArray⟩ : ByteArray) = a1.extract 0 8) := back_long a1 g hs2 G.out
  have hsi : 8 < (a1.size : Int) := by omega
  have hsn : 8 ≤ a1.size := by omega
  have hsj : 8 ≤ (a1.size : Int) := by omega
  go_enter Try.func4, Try.ntmps4
  go_upto_region 2 with fail
  go_cut [27] (fun s27 wx => s27 = .bool false ∧ Below w.heap.size w wx)
  case first =>
    go_region_with (first
      | (go_at_call_of 14 (Value.int IntKind.u64 a0); refine (put_ge w a0 8 r _ ba0 (by omega) R.out ?_).mono ?_; (exact ⟨hb.os, hb.tape, hb.output, hb.size, hb.block⟩); rintro e w' ⟨rfl, hb⟩)
      | (go_at_call_of 16 (Value.string (r ++ a1)); refine (get_ge w _ a0 _ B1.out ?_).mono ?_; (exact ⟨hb.os, hb.tape, hb.output, hb.size, hb.block⟩); rintro e w' ⟨rfl, hb⟩)
      | (go_at_call_of 16 (Value.string a1); refine (get_ge w _ g _ G.out ?_).mono ?_; (exact ⟨hb.os, hb.tape, hb.output, hb.size, hb.block⟩); rintro e w' ⟨rfl, hb⟩)
      | (go_at_call_of 14 (Value.int IntKind.u64 g); refine (put_ge w g _ _ _ g0 g1 T.out ?_).mono ?_; (exact ⟨hb.os, hb.tape, hb.output, hb.size, hb.block⟩); rintro e w' ⟨rfl, hb⟩))
    all_goals (go_wp2_with fail; go_meet; exact ⟨rfl, ⟨hb.os, hb.tape, hb.output, hb.size, hb.block⟩⟩)
  case rest =>
    obtain ⟨rfl, hc⟩ := hcut
    clear hb
    go_wp2_with fail
    go_loopg [6, 7] 8 (fun gk s6 s7 wr => ∃ k : Nat, k ≤ 8 ∧ gk = 8 - k ∧ s7 = .int .i64 k ∧ s6 = .int .u64 (restI k) ∧ Below w.heap.size w wr)
    case atStart => exact ⟨0, by omega, rfl, rfl, rfl, hc⟩
    case round =>
      obtain ⟨k, hk, hgk, rfl, rfl, hb⟩ := hrel
      have HG := Lib.hid hgk
      clear hgk
      by_cases hlt : k < 8
      · have hki : (k : Int) < 8 := by omega
        obtain ⟨p1, p2⟩ := restI_bd k hlt
        obtain ⟨s, S⟩ : ∃ s, Hid ((⟨(putL a0.toNat (clampN (k : Int))).toArray⟩ : ByteArray) = s) := ⟨_, rfl⟩
        have zs : s.size = k := by rw [← S.out, put_size]; exact clampN_nat k (by omega)
        have GS : Hid ((getN s.data.toList : Int) = a0 % restI k) := by rw [← S.out]; exact back_mod a0 k ba0 hlt
        have N := Lib.hid (restI_next k hlt)
        generalize restI k = p at *
        go_upto_region 8 with fail
        go_cut [47] (fun s47 wx => s47 = .bool false ∧ Below w.heap.size w wx)
        case first =>
          go_region_with (first
            | (go_at_call 14; refine (put_ge w a0 _ s _ ba0 (by omega) S.out ?_).mono ?_; (exact ⟨hb.os, hb.tape, hb.output, hb.size, hb.block⟩); rintro e w' ⟨rfl, hb⟩)
            | (go_at_call 16; refine (get_ge w _ _ _ GS.out ?_).mono ?_; (exact ⟨hb.os, hb.tape, hb.output, hb.size, hb.block⟩); rintro e w' ⟨rfl, hb⟩))
          all_goals (go_wp2_with fail; go_meet; exact ⟨rfl, ⟨hb.os, hb.tape, hb.output, hb.size, hb.block⟩⟩)
        case rest =>
          obtain ⟨rfl, hb2⟩ := hcut
          go_wp2_with fail
          go_roundg (8 - (k + 1))
          case measure => have := HG.out; omega
          case rel => exact ⟨k + 1, by omega, rfl, by go_num, by rw [← N.out], hb2⟩
      · go_wp2_with fail
        refine (fixed_any _).mono ?_
        rintro e w3 ⟨rfl, h3⟩
        go_wp2_with fail
        go_ret
        exact ⟨rfl, hb.trans (h3.mono hb.size)⟩


theorem walk (a0 : Int) (a1 : ByteArray) (w0 : (Lit.int .u64 a0).wf = true) (w1 : a1.size ≤ maxLen) (z1 : a1.size ≤ 140737488351232) (w : World) :
    Calls Try.prog 4 #[.int .u64 a0, .string a1] w fun e w' => e = .returned (.bool true) ∧ Below w.heap.size w w' := by
  obtain ⟨ba0, ba1⟩ := bounds_u64 w0
  by_cases hs : a1.size ≤ 8
  · exact short a0 a1 ba0 ba1 z1 hs w
  · exact long a0 a1 ba0 ba1 z1 (by omega) w

set_option maxRecDepth 100000 in
theorem lifted (os : Os) (started : os.Started) (H : Type) (enc : TypeId × Value → H) :
    ReturnsInHanded {} Try.checked os 4 .any (Rows.wordBackSpec.pre6 enc Try.prog Try.f4 Rows.wordBackRow.domain false) (Rows.wordBackSpec.post enc Try.prog Try.f4 false true false false) := by
  refine returnsInHanded_of_change_sized (C := Try.checked) own started (by kernel_rfl) Try.func4
    (ChangeSpec.witness6 (enc := enc) (C := Try.checked) false ⟨#[], #[.int .u64 0, .string ByteArray.empty], []⟩ 8 (by kernel_rfl) (by kernel_rfl) (by kernel_rfl) (by kernel_rfl)) ?_
  intro W base args ds gs before hval0 hW hcnd hsz0 _
  have hsz : (DataW.weightsEach Try.prog (Try.f4.params.toList ++ Rows.wordBackSpec.plain.varTypes Try.prog) (ds ++ gs)).all (· ≤ reachBytes) = true := hsz0
  clear hsz0
  have hval : ∀ (j : Nat) t v, Try.f4.params[j]? = some t → args[j]? = some v → Value.okWide Try.prog W .any base t v := hval0
  have hW' := hW
  obtain ⟨p, q, hA0, hV, rfl, hfz, hnd⟩ := hW
  have hA : DataW.TrodAll enc Try.prog W 0 (fun _ => true) true Try.f4.params.toList args.toList ds p := hA0
  rw [Try.params4] at hA hval hsz
  obtain ⟨v0, vs0, d0, ds0, p0, q0, hargs, rfl, rfl, h0, r0⟩ := trodAll_cons hA
  obtain ⟨v1, vs1, d1, ds1, p1, q1, rfl, rfl, rfl, h1, r1⟩ := trodAll_cons r0
  obtain ⟨rfl, rfl, rfl⟩ := trodAll_nil r1
  obtain rfl : args = #[v0, v1] := by cases args; simp_all
  obtain ⟨rfl, rfl⟩ := trodVars_none hV
  obtain ⟨a0, rfl, rfl, rfl, w0⟩ := open_int Try.underlying22 (hval 0 22 v0 rfl rfl) h0
  obtain ⟨a1, rfl, rfl, rfl, w1⟩ := open_string Try.underlying9 (hval 1 9 v1 rfl rfl) h1
  have z1 : a1.size ≤ 140737488351232 := by
    have := sized_string hsz (j := 1) (t := 9) rfl rfl
    rw [Go.Lib.size_eq]; exact this
  clear hA0 hval0
  simp only [List.append_nil] at hW'
  refine (walk a0 a1 w0 w1 z1 W).mono fun e W' ⟨he, hg⟩ => ?_
  subst he
  exact ⟨_, rfl, post_plain hW' (fun _ _ _ => (trodAll_cons_mk (shut_bool Try.underlying4 _) trodAll_mk0)) (fun sp => (trodAll_cons_mk (shut_int Try.underlying22 w0) (trodAll_cons_mk (shut_string Try.underlying9 w1) trodAll_mk0))) (fun _ => rfl) hg (ok_one (by kernel_rfl) rfl (okWide_bool_mk Try.underlying4 _))⟩

theorem over : Rows.wordBackRow.holds Try.pinned (OpenSpec.ofChange Rows.wordBackSpec) :=
  OpenClaim.holds_of_wide 4 Try.f4 rfl rfl rfl rfl rfl rfl rfl ⟨rfl, rfl, rfl, rfl, rfl⟩ rfl rfl rfl rfl rfl (by kernel_rfl) Try.func4 (by kernel_rfl)
    (of_decide_eq_true (by kernel_rfl)) (by unfold Func.isWrapper; first | (rw [if_pos (by decide +kernel)]; kernel_rfl) | (rw [if_neg (by decide +kernel)]; exact ⟨rfl, rfl⟩))
    (fun os started H enc _ => lifted os started H enc)

theorem proved : Rows.WordBackSaid := over
#print axioms proved
end Go.Proofs.Ytalhpiljenhcaaa.wordBack
