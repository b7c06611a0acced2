/- Contracts of the document's own answers for package word (lodgerref01), for every number below 2^64, every size and every string: each tells what the contract of the program's own call tells. -/
import Derived.Test.YtalhpiljenhcaaaWordF
import Derived.Deep.LoopGhost
import Derived.WalkSmall
namespace Go.Proofs.Ytalhpiljenhcaaa
open Go.RowKit Go.Lib
set_option linter.unusedVariables false

namespace R1
theorem max_any (w : World) : Calls Try.prog 22 #[] w fun e w' => e = .returned (.int .u64 18446744073709551615) ∧ w = w' := by
  go_enter Try.func22, Try.ntmps22
  go_wp2
  go_ret
  exact ⟨rfl, rfl⟩

theorem less_any (a b : Int) (w : World) (hb : 0 ≤ b) (ha : a < 18446744073709551616) :
    Calls Try.prog 19 #[.int .u64 a, .int .u64 b] w fun e w' => e = .returned (.int .u64 (lessI a b)) ∧ w = w' := by
  by_cases h : a < b
  · have e : lessI a b = 0 := by unfold lessI; rw [if_pos h]
    rw [e]
    clear e
    go_enter Try.func19, Try.ntmps19
    go_wp2
    go_ret
    exact ⟨rfl, rfl⟩
  · have e : lessI a b = a - b := by unfold lessI; rw [if_neg h]
    rw [e]
    have h' : b ≤ a := by omega
    clear e
    go_enter Try.func19, Try.ntmps19
    go_wp2
    go_ret
    exact ⟨rfl, rfl⟩

theorem add_is (a b c : Int) (w : World) (ha : 0 ≤ a) (hb : 0 ≤ b) (hc : a + b = c) (h : c < 18446744073709551616) :
    Calls Try.prog 11 #[.int .u64 a, .int .u64 b] w fun e w' => e = .returned (.tuple #[.int .u64 c, .bool false]) ∧ w = w' := by
  subst hc
  have h1 : ¬ 18446744073709551615 - b < a := by omega
  have h2 : a < 18446744073709551616 := by omega
  have h3 : b < 18446744073709551616 := by omega
  go_enter Try.func11, Try.ntmps11
  go_wp2_with fail
  refine (max_any _).mono ?_
  rintro e w' ⟨rfl, rfl⟩
  go_wp2_with fail
  go_ret2
  exact ⟨rfl, rfl⟩

theorem add_over (a b : Int) (w : World) (ha : 0 ≤ a) (hb : 0 ≤ b) (h2 : a < 18446744073709551616) (h3 : b < 18446744073709551616) (h : 18446744073709551616 ≤ a + b) :
    Calls Try.prog 11 #[.int .u64 a, .int .u64 b] w fun e w' => e = .returned (.tuple #[.int .u64 18446744073709551615, .bool true]) ∧ w = w' := by
  have h1 : 18446744073709551615 - b < a := by omega
  go_enter Try.func11, Try.ntmps11
  go_wp2_with fail
  refine (max_any _).mono ?_
  rintro e w' ⟨rfl, rfl⟩
  go_wp2_with fail
  refine (max_any _).mono ?_
  rintro e w' ⟨rfl, rfl⟩
  go_wp2_with fail
  go_ret2
  exact ⟨rfl, rfl⟩

theorem size_any (s : Int) (w : World) :
    Calls Try.prog 25 #[.int .i64 s] w fun e w' => e = .returned (.int .i64 (clampN s : Int)) ∧ w = w' := by
  by_cases h : s < 0
  · rw [clampN_lo h]
    have h8 : s < 8 := by omega
    go_enter Try.func25, Try.ntmps25
    go_wp2
    go_ret
    exact ⟨rfl, rfl⟩
  by_cases h' : 8 < s
  · rw [clampN_hi h']
    go_enter Try.func25, Try.ntmps25
    go_wp2
    go_ret
    exact ⟨rfl, rfl⟩
  rw [clampN_in (by omega) (by omega), Int.toNat_of_nonneg (by omega)]
  have h2 : s ≤ 8 := by omega
  by_cases h0 : s = 0
  · subst h0
    go_enter Try.func25, Try.ntmps25
    go_wp2
    go_ret
    exact ⟨rfl, rfl⟩
  have h1 : 0 < s := by omega
  clear h h' h0
  go_enter Try.func25, Try.ntmps25
  go_wp2
  go_ret
  exact ⟨rfl, rfl⟩

theorem mul_zero (a : Int) (w : World) (ha : 0 ≤ a) (ha' : a < 18446744073709551616) :
    Calls Try.prog 13 #[.int .u64 a, .int .u64 0] w fun e w' => e = .returned (.tuple #[.int .u64 0, .bool false]) ∧ w = w' := by
  go_enter Try.func13, Try.ntmps13
  go_wp2_with fail
  go_ret2
  exact ⟨by simp, rfl⟩

theorem mul_is (a b c : Int) (w : World) (ha : 0 ≤ a) (hb : 0 < b) (hc : a * b = c) (h : c < 18446744073709551616) :
    Calls Try.prog 13 #[.int .u64 a, .int .u64 b] w fun e w' => e = .returned (.tuple #[.int .u64 c, .bool false]) ∧ w = w' := by
  have hq : a ≤ 18446744073709551615 / b := (Int.le_ediv_iff_mul_le hb).2 (by omega)
  have hw : IntKind.u64.wrap (a * b) = c := by
    have h0 : 0 ≤ a * b := Int.mul_nonneg ha (by omega)
    rw [IntKind.wrap_u64, hc]; omega
  have hcd : decide (18446744073709551615 / b < a) = false := by rw [decide_eq_false_iff_not]; omega
  clear hc
  go_enter Try.func13, Try.ntmps13
  go_wp2_with fail
  refine (max_any _).mono ?_
  rintro e w' ⟨rfl, rfl⟩
  go_wp2_with fail
  go_ret2
  exact ⟨rfl, rfl⟩

theorem mul_over (a b : Int) (w : World) (ha : 0 ≤ a) (hb : 0 < b) (h : 18446744073709551616 ≤ a * b) :
    Calls Try.prog 13 #[.int .u64 a, .int .u64 b] w fun e w' => e = .returned (.tuple #[.int .u64 18446744073709551615, .bool true]) ∧ w = w' := by
  have hq : 18446744073709551615 / b < a := Int.ediv_lt_of_lt_mul hb (by omega)
  have hcd : decide (18446744073709551615 / b < a) = true := by rw [decide_eq_true_iff]; exact hq
  clear h
  go_enter Try.func13, Try.ntmps13
  go_wp2_with fail
  refine (max_any _).mono ?_
  rintro e w' ⟨rfl, rfl⟩
  go_wp2_with fail
  refine (max_any _).mono ?_
  rintro e w' ⟨rfl, rfl⟩
  go_wp2_with fail
  go_ret2
  exact ⟨rfl, rfl⟩

theorem putL_snoc : ∀ (k n : Nat), putL n (k + 1) = putL n k ++ [UInt8.ofNat (n / 256 ^ k % 256)]
  | 0, n => by simp [putL]
  | k + 1, n => by
    rw [putL, putL_snoc k (n / 256), putL, List.cons_append, Nat.pow_succ, Nat.mul_comm (256 ^ k) 256, Nat.div_div_eq_div_mul]

theorem conv1 (W : World) (x : Int) :
    (convert 43 9 (.slice (some ⟨W.heap.size, 0, none⟩) 1 1)).run Try.prog (W.alloc (.cells #[.int .u8 x] 5)) =
      .ok (.string (strOfNums [x])) (W.alloc (.cells #[.int .u8 x] 5)) := by
  refine run_convert_bytes_arg _ 43 5 Try.underlying43 Try.underlying5 W.heap.size 0 1 1 [x] rfl (fun i hi => ?_) 9 Try.underlying9
  obtain rfl : i = 0 := by omega
  simp [go_sem]

set_option maxHeartbeats 1000000 in
theorem put_any (n s : Int) (w : World) (h0 : 0 ≤ n) (h1 : n < 18446744073709551616) :
    Calls Try.prog 15 #[.int .u64 n, .int .i64 s] w fun e w' => e = .returned (.string ⟨(putL n.toNat (clampN s)).toArray⟩) ∧ Below w.heap.size w w' := by
  obtain ⟨n, rfl⟩ := Int.eq_ofNat_of_zero_le h0
  rw [Int.toNat_natCast]
  have hK := clampN_le s
  have C := Lib.hid (fun w => size_any s w)
  generalize clampN s = K at *
  go_enter Try.func15, Try.ntmps15
  go_wp2_with fail
  go_loopg [0, 5, 6] 8 (fun gk s0 s5 s6 wr => ∃ k : Nat, k ≤ K ∧ gk = 8 - k ∧ s6 = .int .i64 k ∧ s0 = .int .u64 ((n / 256 ^ k : Nat) : Int) ∧ s5 = .string ⟨(putL n k).toArray⟩ ∧ Below w.heap.size w wr)
  case atStart => exact ⟨0, by omega, rfl, rfl, by simp, by simp [putL], Below.refl _ _⟩
  case round =>
    obtain ⟨k, hk, hgk, rfl, rfl, rfl, hb⟩ := hrel
    have HG := Lib.hid hgk
    clear hgk
    have hs1 : (⟨(putL n k).toArray⟩ : ByteArray).size ≤ 8 := by rw [put_size]; omega
    obtain ⟨m, M⟩ : ∃ m, Hid (n / 256 ^ k = m) := ⟨_, rfl⟩
    have hm : m < 18446744073709551616 := by
      rw [← M.out]
      exact Nat.lt_of_le_of_lt (Nat.div_le_self _ _) (by omega)
    have M2 : Hid (n / 256 ^ (k + 1) = m / 256) := by
      show n / 256 ^ (k + 1) = m / 256
      rw [Nat.pow_succ, ← Nat.div_div_eq_div_mul, M.out]
    have S2 : Hid (putL n (k + 1) = putL n k ++ [UInt8.ofNat (m % 256)]) := by
      show putL n (k + 1) = putL n k ++ [UInt8.ofNat (m % 256)]
      rw [putL_snoc, M.out]
    rw [M.out]
    obtain ⟨t, T⟩ : ∃ t, Hid ((⟨(putL n k).toArray⟩ : ByteArray) = t) := ⟨_, rfl⟩
    rw [T.out] at hs1 ⊢
    have hmi : (m : Int) < 18446744073709551616 := by omega
    clear hm
    by_cases hlt : k < K
    · have hlti : (k : Int) < (K : Int) := by omega
      have hk8 : (k : Int) < 8 := by omega
      have c1 := conv1 wr ((m : Int) % 256)
      obtain ⟨u, U⟩ : ∃ u, Hid (strOfNums [(m : Int) % 256] = u) := ⟨_, rfl⟩
      have hu : u.size ≤ 1 := by rw [← U.out]; exact Nat.le_refl 1
      have J : Hid (t ++ u = ⟨(putL n (k + 1)).toArray⟩) := by
        show t ++ u = ⟨(putL n (k + 1)).toArray⟩
        rw [S2.out, ← T.out, ← U.out]
        have e : ((m : Int) % 256).toNat = m % 256 := by omega
        apply ByteArray.ext
        rw [ByteArray.data_append]
        simp [strOfNums, e]
      rw [U.out] at c1
      go_wp2_with fail
      refine (C.out _).mono ?_
      rintro e w' ⟨rfl, rfl⟩
      go_wp2_with fail
      go_roundg (8 - (k + 1))
      case measure => have := HG.out; omega
      case rel => exact ⟨k + 1, by omega, rfl, by go_num, by rw [M2.out]; go_num, by rw [← J.out], hb.alloc hb.size _⟩
    · obtain rfl : K = k := by omega
      have hD : decide (K < K) = false := by rw [decide_eq_false_iff_not]; omega
      clear hlt hk h1 hmi
      go_wp2_with fail
      refine (C.out _).mono ?_
      rintro e w' ⟨rfl, rfl⟩
      clear C
      go_wp2_with fail
      go_ret
      exact ⟨congrArg (fun b : ByteArray => Ending.returned (.string b)) T.out.symm, hb⟩

theorem byte_step (l : List UInt8) (K j : Nat) (hj : j < K) (hK : K ≤ l.length) : leN ((l.take K).drop j) = leN ((l.take K).drop (j + 1)) * 256 + byteAt l j := by
  have hl : j < (l.take K).length := by rw [List.length_take]; omega
  rw [List.drop_eq_getElem_cons hl, leN]
  have e : ((l.take K)[j]).toNat = byteAt l j := by
    rw [List.getElem_take]
    simp [byteAt, List.getElem?_eq_getElem (show j < l.length by omega)]
  rw [e]; omega

theorem byte_get (s : ByteArray) (j : Nat) (h : j < s.size) : (s[j]'h).toNat = byteAt s.data.toList j := by
  have h2 : j < s.data.toList.length := by rw [← size_eq]; exact h
  simp only [byteAt, List.getElem?_eq_getElem h2, Option.getD_some]
  rfl

/-- The number of the bytes above place j, of the first K. -/
def upV (l : List UInt8) (K : Nat) (j : Int) : Int := (leN ((l.take K).drop (j + 1).toNat) : Nat)

theorem upV_top (l : List UInt8) (K : Nat) (j : Int) (h : j + 1 = K) : upV l K j = 0 := by
  unfold upV
  have e : (j + 1).toNat = K := by omega
  rw [e, List.drop_of_length_le (by rw [List.length_take]; omega)]
  rfl

theorem upV_bd (l : List UInt8) (K m : Nat) (h : K ≤ m + 8) : 0 ≤ upV l K m ∧ upV l K m < 72057594037927936 := by
  unfold upV
  have h2 := leN_lt_of (l := (l.take K).drop ((m : Int) + 1).toNat) (k := 7) (by
    have e : ((m : Int) + 1).toNat = m + 1 := by omega
    rw [e, List.length_drop, List.length_take]; omega)
  omega

theorem upV_step (l : List UInt8) (K m : Nat) (h : m < K) (hK : K ≤ l.length) : upV l K ((m : Int) - 1) = upV l K m * 256 + (byteAt l m : Int) := by
  have e1 : ((m : Int) - 1 + 1).toNat = m := by omega
  have e2 : ((m : Int) + 1).toNat = m + 1 := by omega
  have h2 := byte_step l K m h hK
  unfold upV
  rw [e1, e2, h2]
  omega

theorem upV_end (l : List UInt8) (K : Nat) : upV l K (-1) = (leN (l.take K) : Nat) := rfl

set_option maxHeartbeats 1000000 in
theorem get_short (s : ByteArray) (w : World) (h : s.size ≤ 8) :
    Calls Try.prog 17 #[.string s] w fun e w' => e = .returned (.int .u64 (upV s.data.toList s.size (-1))) ∧ w = w' := by
  have hi : (s.size : Int) ≤ 8 := by omega
  go_enter Try.func17, Try.ntmps17
  go_wp2_with fail
  go_loopg [3, 4] 8 (fun gk s3 s4 wr => ∃ j : Int, -1 ≤ j ∧ j + 1 ≤ (s.size : Int) ∧ (gk : Int) = j + 1 + (8 - (s.size : Int)) ∧ s4 = .int .i64 j ∧ s3 = .int .u64 (upV s.data.toList s.size j) ∧ w = wr)
  case atStart => exact ⟨(s.size : Int) - 1, by omega, by omega, by omega, rfl, by rw [upV_top _ _ _ (by omega)], rfl⟩
  case round =>
    obtain ⟨j, hj1, hj2, hgk, rfl, rfl, rfl⟩ := hrel
    have HG := Lib.hid hgk
    clear hgk
    by_cases hj : 0 ≤ j
    · obtain ⟨m, rfl⟩ := Int.eq_ofNat_of_zero_le hj
      have hm : m < s.size := by omega
      have hmi : (m : Int) < (s.size : Int) := by omega
      obtain ⟨v0, v1⟩ := upV_bd s.data.toList s.size m (by omega)
      obtain ⟨x, hx⟩ : ∃ x, (s[m]'hm).toNat = x := ⟨_, rfl⟩
      have hx1 : x < 256 := by rw [← hx]; exact byte_lt _
      have hx2 : (x : Int) < 256 := by omega
      have N : Hid (upV s.data.toList s.size ((m : Int) - 1) = upV s.data.toList s.size m * 256 + (x : Int)) := by
        rw [← hx, byte_get]
        exact upV_step s.data.toList s.size m (by omega) (by rw [← size_eq]; omega)
      generalize upV s.data.toList s.size (m : Int) = v at *
      go_wp2_with fail
      go_roundg (m + (8 - s.size))
      case measure => have := HG.out; omega
      case rel => exact ⟨(m : Int) - 1, by omega, by omega, by omega, rfl, by rw [N.out], rfl⟩
    · obtain rfl : j = -1 := by omega
      go_wp2_with fail
      go_ret
      exact ⟨rfl, rfl⟩

set_option maxHeartbeats 1000000 in
theorem get_long (s : ByteArray) (w : World) (h : 8 < s.size) :
    Calls Try.prog 17 #[.string s] w fun e w' => e = .returned (.int .u64 (upV s.data.toList 8 (-1))) ∧ w = w' := by
  have hi : (8 : Int) < (s.size : Int) := by omega
  go_enter Try.func17, Try.ntmps17
  go_wp2_with fail
  go_loopg [3, 4] 8 (fun gk s3 s4 wr => ∃ j : Int, -1 ≤ j ∧ j + 1 ≤ (8 : Int) ∧ (gk : Int) = j + 1 + (8 - (8 : Int)) ∧ s4 = .int .i64 j ∧ s3 = .int .u64 (upV s.data.toList 8 j) ∧ w = wr)
  case atStart => exact ⟨7, by omega, by omega, by omega, rfl, by rw [upV_top _ _ _ (by omega)], rfl⟩
  case round =>
    obtain ⟨j, hj1, hj2, hgk, rfl, rfl, rfl⟩ := hrel
    have HG := Lib.hid hgk
    clear hgk
    by_cases hj : 0 ≤ j
    · obtain ⟨m, rfl⟩ := Int.eq_ofNat_of_zero_le hj
      have hm : m < s.size := by omega
      have hmi : (m : Int) < (s.size : Int) := by omega
      obtain ⟨v0, v1⟩ := upV_bd s.data.toList 8 m (by omega)
      obtain ⟨x, hx⟩ : ∃ x, (s[m]'hm).toNat = x := ⟨_, rfl⟩
      have hx1 : x < 256 := by rw [← hx]; exact byte_lt _
      have hx2 : (x : Int) < 256 := by omega
      have N : Hid (upV s.data.toList 8 ((m : Int) - 1) = upV s.data.toList 8 m * 256 + (x : Int)) := by
        rw [← hx, byte_get]
        exact upV_step s.data.toList 8 m (by omega) (by rw [← size_eq]; omega)
      generalize upV s.data.toList 8 (m : Int) = v at *
      go_wp2_with fail
      go_roundg (m + (8 - 8))
      case measure => have := HG.out; omega
      case rel => exact ⟨(m : Int) - 1, by omega, by omega, by omega, rfl, by rw [N.out], rfl⟩
    · obtain rfl : j = -1 := by omega
      go_wp2_with fail
      go_ret
      exact ⟨rfl, rfl⟩


theorem get_any (s : ByteArray) (w : World) :
    Calls Try.prog 17 #[.string s] w fun e w' => e = .returned (.int .u64 (getN s.data.toList : Int)) ∧ w = w' := by
  by_cases h : s.size ≤ 8
  · have c := get_short s w h
    rw [upV_end, size_eq, List.take_of_length_le (Nat.le_refl _)] at c
    unfold getN
    rw [List.take_of_length_le (by rw [← size_eq]; exact h)]
    exact c
  · exact get_long s w (by omega)

end R1
end Go.Proofs.Ytalhpiljenhcaaa
