/- Contracts of the document's own answers for package ttl (lodgerref03), for every float64, every time and every number: each tells what the contract of the program's own call tells. -/
import Derived.Test.YtleldlcjhaaadaaTtlF
import Derived.Deep.LoopGhost
import Derived.WalkSmall
namespace Go.Proofs.Ytleldlcjhaaadaa
open Go.RowKit Go.Lib Flt
set_option linter.unusedVariables false

namespace R3
/-- Kind, by the two fields of the bits. -/
theorem kind_at (b : Nat) (B lo hi k : Int) (w : World) (eb : ∀ w, (callFunc 24 #[.float .f64 b]).run Try.prog w = .ok (.value (.int .u64 B)) w) (hB : 0 ≤ B) (hb : B < 18446744073709551616) (e1 : B % 4503599627370496 = lo) (e2 : B / 4503599627370496 % 2048 = hi) (h0 : 0 ≤ lo) (h1 : 0 ≤ hi)
    (h : (hi = 2047 ∧ 0 < lo ∧ k = 0) ∨ (hi = 2047 ∧ lo = 0 ∧ 9223372036854775808 ≤ B ∧ k = 1) ∨ (hi = 2047 ∧ lo = 0 ∧ B < 9223372036854775808 ∧ k = 6) ∨
      (hi = 0 ∧ lo = 0 ∧ 9223372036854775808 ≤ B ∧ k = 3) ∨ (hi = 0 ∧ lo = 0 ∧ B < 9223372036854775808 ∧ k = 4) ∨
      (hi = 0 ∧ 0 < lo ∧ 9223372036854775808 ≤ B ∧ k = 2) ∨ (hi = 0 ∧ 0 < lo ∧ B < 9223372036854775808 ∧ k = 5) ∨
      (0 < hi ∧ hi < 2047 ∧ 9223372036854775808 ≤ B ∧ k = 2) ∨ (0 < hi ∧ hi < 2047 ∧ B < 9223372036854775808 ∧ k = 5)) :
    Calls Try.prog 15 #[.float .f64 b] w fun e w' => e = .returned (.int .i64 k) ∧ w = w' := by
  rcases h with ⟨rfl, h2, rfl⟩ | ⟨rfl, rfl, h2, rfl⟩ | ⟨rfl, rfl, h2, rfl⟩ | ⟨rfl, rfl, h2, rfl⟩ | ⟨rfl, rfl, h2, rfl⟩ | ⟨rfl, h3, h2, rfl⟩ | ⟨rfl, h3, h2, rfl⟩ | ⟨h3, h4, h2, rfl⟩ | ⟨h3, h4, h2, rfl⟩
  · go_enter Try.func15, Try.ntmps15
    go_wp2_with fail
    go_ret
    exact ⟨rfl, rfl⟩
  · go_enter Try.func15, Try.ntmps15
    go_wp2_with fail
    go_ret
    exact ⟨rfl, rfl⟩
  · go_enter Try.func15, Try.ntmps15
    go_wp2_with fail
    go_ret
    exact ⟨rfl, rfl⟩
  · go_enter Try.func15, Try.ntmps15
    go_wp2_with fail
    go_ret
    exact ⟨rfl, rfl⟩
  · go_enter Try.func15, Try.ntmps15
    go_wp2_with fail
    go_ret
    exact ⟨rfl, rfl⟩
  · go_enter Try.func15, Try.ntmps15
    go_wp2_with fail
    go_ret
    exact ⟨rfl, rfl⟩
  · go_enter Try.func15, Try.ntmps15
    go_wp2_with fail
    go_ret
    exact ⟨rfl, rfl⟩
  · go_enter Try.func15, Try.ntmps15
    go_wp2_with fail
    go_ret
    exact ⟨rfl, rfl⟩
  · go_enter Try.func15, Try.ntmps15
    go_wp2_with fail
    go_ret
    exact ⟨rfl, rfl⟩

theorem kind_any (b : Nat) (w : World) (hb : b < 18446744073709551616) :
    Calls Try.prog 15 #[.float .f64 b] w fun e w' => e = .returned (.int .i64 (kd b)) ∧ w = w' := by
  have h := kd_cases b hb
  generalize kd b = k at *
  refine kind_at b b _ _ _ w (fbits b) (by omega) (by omega) rfl rfl (by omega) (by omega) ?_
  rcases h with ⟨h, e⟩ | ⟨hn, ⟨h, e⟩ | ⟨h, e⟩ | ⟨h, e⟩ | ⟨h, e⟩ | ⟨h, h', e⟩ | ⟨h, h', e⟩⟩
  · exact .inl (by omega)
  · exact .inr (.inl (by omega))
  · exact .inr (.inr (.inl (by omega)))
  · exact .inr (.inr (.inr (.inl (by omega))))
  · exact .inr (.inr (.inr (.inr (.inl (by omega)))))
  · by_cases g : (b : Int) / 4503599627370496 % 2048 = 0
    · exact .inr (.inr (.inr (.inr (.inr (.inl (by omega))))))
    · exact .inr (.inr (.inr (.inr (.inr (.inr (.inr (.inl (by omega))))))))
  · by_cases g : (b : Int) / 4503599627370496 % 2048 = 0
    · exact .inr (.inr (.inr (.inr (.inr (.inr (.inl (by omega)))))))
    · exact .inr (.inr (.inr (.inr (.inr (.inr (.inr (.inr (by omega))))))))

theorem ret_int {k : IntKind} {a b : Int} (h : a = b) : Ending.returned (.int k a) = .returned (.int k b) := by rw [h]
theorem half_step (N k : Nat) : N / 2 ^ (k + 1) = N / 2 ^ k / 2 := by
  rw [Nat.pow_succ, Nat.div_div_eq_div_mul]

set_option maxHeartbeats 1000000 in
theorem whole_lo (b : Nat) (B lo hi : Int) (N d : Nat) (w : World) (eb : ∀ w, (callFunc 24 #[.float .f64 b]).run Try.prog w = .ok (.value (.int .u64 B)) w) (hB : 0 ≤ B) (hb : B < 18446744073709551616)
    (e1 : B % 4503599627370496 = lo) (e2 : B / 4503599627370496 % 2048 = hi) (h0 : 0 ≤ lo) (h1 : lo < 4503599627370496) (h2 : 0 ≤ hi) (h3 : hi < 1075) (hd : Hid (hi + (d : Int) = 1075)) (hN : Hid ((N : Int) = lo + 4503599627370496)) :
    Calls Try.prog 26 #[.float .f64 b] w fun e w' => e = .returned (.int .u64 ((N / 2 ^ d : Nat) : Int)) ∧ w = w' := by
  go_enter Try.func26, Try.ntmps26
  go_wp2_with fail
  go_loopg [4, 5] d (fun gk s4 s5 wr => ∃ k : Nat, k ≤ d ∧ gk = d - k ∧ s5 = .int .i64 ((k : Int) - d) ∧ s4 = .int .u64 ((N / 2 ^ k : Nat) : Int) ∧ w = wr)
  case atStart => exact ⟨0, by omega, by omega, by have := hd.out; congr 1; omega, by have := hN.out; rw [Nat.pow_zero, Nat.div_one]; congr 1; omega, rfl⟩
  case round =>
    obtain ⟨k, hk, hgk, rfl, rfl, rfl⟩ := hrel
    have HG := Lib.hid hgk
    clear hgk e1 e2 eb
    obtain ⟨m, M⟩ : ∃ m, Hid (N / 2 ^ k = m) := ⟨_, rfl⟩
    have hm : (m : Int) < 9007199254740992 := by
      have := hN.out
      have h5 : N / 2 ^ k ≤ N := Nat.div_le_self _ _
      rw [M.out] at h5
      omega
    have M2 : Hid (N / 2 ^ (k + 1) = m / 2) := by
      show N / 2 ^ (k + 1) = m / 2
      rw [half_step, M.out]
    have hd52 : (d : Int) ≤ 1075 := by have := hd.out; omega
    rw [M.out]
    by_cases hlt : k < d
    · have hlt' : (k : Int) - d < 0 := by omega
      have hge : -1075 ≤ (k : Int) - d := by omega
      go_wp2_with fail
      go_roundg (d - (k + 1))
      case measure => have := HG.out; omega
      case rel => exact ⟨k + 1, by omega, rfl, by congr 1; omega, by rw [M2.out]; congr 1, rfl⟩
    · obtain rfl : d = k := by omega
      have hz : (d : Int) - d = 0 := by omega
      rw [hz]
      clear hz hlt hk
      go_wp2_with fail
      refine wp_loop_rounds 1 ?_
      rw [rounds_succ]
      go_wp2_with fail
      go_ret
      exact ⟨ret_int (by rw [M.out]), rfl⟩

set_option maxHeartbeats 1000000 in
theorem whole_hi (b : Nat) (B lo hi : Int) (N d : Nat) (w : World) (eb : ∀ w, (callFunc 24 #[.float .f64 b]).run Try.prog w = .ok (.value (.int .u64 B)) w) (hB : 0 ≤ B) (hb : B < 18446744073709551616)
    (e1 : B % 4503599627370496 = lo) (e2 : B / 4503599627370496 % 2048 = hi) (h0 : 0 ≤ lo) (h1 : lo < 4503599627370496) (h2 : 1075 ≤ hi) (h3 : hi ≤ 1086) (hd : Hid (hi = 1075 + (d : Int))) (hN : Hid ((N : Int) = lo + 4503599627370496)) :
    Calls Try.prog 26 #[.float .f64 b] w fun e w' => e = .returned (.int .u64 ((N * 2 ^ d : Nat) : Int)) ∧ w = w' := by
  go_enter Try.func26, Try.ntmps26
  go_wp2_with fail
  refine wp_loop_rounds 1 ?_
  rw [rounds_succ]
  go_wp2_with fail
  go_loopg [4, 5] d (fun gk s4 s5 wr => ∃ k : Nat, k ≤ d ∧ gk = d - k ∧ s5 = .int .i64 ((d : Int) - k) ∧ s4 = .int .u64 ((N * 2 ^ k : Nat) : Int) ∧ w = wr)
  case atStart => exact ⟨0, by omega, by omega, by have := hd.out; congr 1; omega, by have := hN.out; rw [Nat.pow_zero, Nat.mul_one]; congr 1; omega, rfl⟩
  case round =>
    obtain ⟨k, hk, hgk, rfl, rfl, rfl⟩ := hrel
    have HG := Lib.hid hgk
    clear hgk e1 e2 eb
    have hd52 : (d : Int) ≤ 11 := by have := hd.out; omega
    have hpk : 2 ^ k ≤ 2 ^ 11 := Nat.pow_le_pow_right (by omega) (by omega)
    obtain ⟨m, M⟩ : ∃ m, Hid (N * 2 ^ k = m) := ⟨_, rfl⟩
    have hmm : m ≤ 9007199254740991 * 2 ^ 11 := by
      have := hN.out
      have h5 : N * 2 ^ k ≤ 9007199254740991 * 2 ^ 11 := Nat.mul_le_mul (by omega) hpk
      rw [M.out] at h5
      exact h5
    have hk' : k < d → 2 ^ k ≤ 2 ^ 10 := fun h => Nat.pow_le_pow_right (by omega) (by omega)
    have hm : k < d → (m : Int) ≤ 9223372036854774784 := by
      intro h
      have := hN.out
      have h5 : N * 2 ^ k ≤ 9007199254740991 * 2 ^ 10 := Nat.mul_le_mul (by omega) (hk' h)
      rw [M.out] at h5
      omega
    have M2 : Hid (N * 2 ^ (k + 1) = m * 2) := by
      show N * 2 ^ (k + 1) = m * 2
      rw [Nat.pow_succ, ← Nat.mul_assoc, M.out]
    clear hpk hk'
    rw [M.out]
    by_cases hlt : k < d
    · have hm1 := hm hlt
      clear hm hmm
      have hlt' : 0 < (d : Int) - k := by omega
      have hge : (d : Int) - k ≤ 1075 := by omega
      go_wp2_with fail
      go_roundg (d - (k + 1))
      case measure => have := HG.out; omega
      case rel => exact ⟨k + 1, by omega, rfl, by congr 1; omega, by rw [M2.out]; congr 1, rfl⟩
    · obtain rfl : d = k := by omega
      have hz : (d : Int) - d = 0 := by omega
      rw [hz]
      clear hz hlt hk hm hmm
      go_wp2_with fail
      go_ret
      exact ⟨ret_int (by rw [M.out]), rfl⟩

theorem whole_any (b : Nat) (w : World) (h1 : 4607182418800017408 ≤ b) (h2 : b < 4895412794951729152) :
    Calls Try.prog 26 #[.float .f64 b] w fun e w' => e = .returned (.int .u64 ((fl b : Nat) : Int)) ∧ w = w' := by
  have e := fl_bits b h1
  by_cases h : b / 4503599627370496 < 1075
  · have c := whole_lo b b _ _ (b % 4503599627370496 + 4503599627370496) (1075 - b / 4503599627370496) w (fbits b) (by omega) (by omega) rfl rfl (by omega) (by omega) (by omega) (by omega) (Lib.hid (by omega)) (Lib.hid (by omega))
    have z : b / 4503599627370496 - 1075 = 0 := by omega
    rw [z, Nat.pow_zero, Nat.mul_one] at e
    rw [e]
    exact c
  · have c := whole_hi b b _ _ (b % 4503599627370496 + 4503599627370496) (b / 4503599627370496 - 1075) w (fbits b) (by omega) (by omega) rfl rfl (by omega) (by omega) (by omega) (by omega) (Lib.hid (by omega)) (Lib.hid (by omega))
    have z : 1075 - b / 4503599627370496 = 0 := by omega
    rw [z, Nat.pow_zero, Nat.div_one] at e
    rw [e]
    exact c

theorem add_is (a b c : Int) (w : World) (ha : 0 ≤ a) (hb : 0 ≤ b) (hc : a + b = c) (h : c < 18446744073709551616) :
    Calls Try.prog 31 #[.int .u64 a, .int .u64 b] w fun e w' => e = .returned (.tuple #[.int .u64 c, .bool false]) ∧ w = w' := by
  subst hc
  have h1 : ¬ 18446744073709551615 - b < a := by omega
  have h2 : a < 18446744073709551616 := by omega
  have h3 : b < 18446744073709551616 := by omega
  go_enter Try.func31, Try.ntmps31
  go_wp2_with fail
  refine (max_any _).mono ?_
  rintro e w' ⟨rfl, rfl⟩
  go_wp2_with fail
  go_ret2
  exact ⟨rfl, rfl⟩

theorem add_over (a b : Int) (w : World) (ha : 0 ≤ a) (hb : 0 ≤ b) (h2 : a < 18446744073709551616) (h3 : b < 18446744073709551616) (h : 18446744073709551616 ≤ a + b) :
    Calls Try.prog 31 #[.int .u64 a, .int .u64 b] w fun e w' => e = .returned (.tuple #[.int .u64 18446744073709551615, .bool true]) ∧ w = w' := by
  have h1 : 18446744073709551615 - b < a := by omega
  go_enter Try.func31, Try.ntmps31
  go_wp2_with fail
  refine (max_any _).mono ?_
  rintro e w' ⟨rfl, rfl⟩
  go_wp2_with fail
  refine (max_any _).mono ?_
  rintro e w' ⟨rfl, rfl⟩
  go_wp2_with fail
  go_ret2
  exact ⟨rfl, rfl⟩

theorem later_any (a b : Int) (w : World) (ha : 0 ≤ a) (hb : 0 ≤ b) (ha' : a < 18446744073709551616) (hb' : b < 18446744073709551616) :
    Calls Try.prog 20 #[.int .u64 a, .int .u64 b] w fun e w' => e = .returned (.int .u64 (lat a b)) ∧ w = w' := by
  unfold lat
  by_cases h : a + b < 18446744073709551616
  · rw [if_pos h]
    have C := Lib.hid (fun w => add_is a b _ w ha hb rfl h)
    obtain ⟨c, hc⟩ : ∃ c, a + b = c := ⟨_, rfl⟩
    rw [hc] at C ⊢
    clear hc h
    go_enter Try.func20, Try.ntmps20
    go_wp2_with fail
    refine (C.out _).mono ?_
    rintro e w' ⟨rfl, rfl⟩
    go_wp2_with fail
    go_ret
    exact ⟨rfl, rfl⟩
  · rw [if_neg h]
    have C := Lib.hid (fun w => add_over a b w ha hb ha' hb' (by omega))
    clear h
    go_enter Try.func20, Try.ntmps20
    go_wp2_with fail
    refine (C.out _).mono ?_
    rintro e w' ⟨rfl, rfl⟩
    go_wp2_with fail
    go_ret
    exact ⟨rfl, rfl⟩

theorem kd_bd (b : Nat) (hb : b < 18446744073709551616) : 0 ≤ kd b ∧ kd b ≤ 6 := by
  have := kd_cases b hb
  omega

set_option maxHeartbeats 400000 in
theorem ticks_any (b : Nat) (w : World) (hb : b < 18446744073709551616) :
    Calls Try.prog 11 #[.float .f64 b] w fun e w' => e = .returned (.tuple #[.int .u64 (tk b), .int .i64 (te b)]) ∧ w = w' := by
  have k := key_spec b
  have kc := kd_cases b hb
  obtain ⟨k0, k6⟩ := kd_bd b hb
  have C1 := Lib.hid (fun w => kind_any b w hb)
  rcases tk_cases b hb with ⟨h, e1, e2⟩ | ⟨hn, ⟨h, e1, e2⟩ | ⟨h, h', e1, e2⟩ | ⟨h, h', e1, e2⟩⟩ <;> rw [e1, e2] <;> clear e1 e2
  · have a1 : kd b ≤ 4 := by omega
    clear h hb k kc
    generalize kd b = K at *
    go_enter Try.func11, Try.ntmps11
    go_wp2_with fail
    refine (C1.out _).mono ?_
    rintro e w' ⟨rfl, rfl⟩
    go_wp2_with fail
    go_ret2
    exact ⟨rfl, rfl⟩
  · by_cases g : kd b ≤ 4
    · clear h hb k kc hn
      generalize kd b = K at *
      go_enter Try.func11, Try.ntmps11
      go_wp2_with fail
      refine (C1.out _).mono ?_
      rintro e w' ⟨rfl, rfl⟩
      go_wp2_with fail
      go_ret2
      exact ⟨rfl, rfl⟩
    · have g5 : kd b = 5 := by omega
      rw [g5] at C1
      have o := olt b 4607182418800017408 hb (by omega) hn (by omega) (by rw [key_1]; omega)
      clear h hb k kc hn g k0 k6 g5
      go_enter Try.func11, Try.ntmps11
      go_wp2_with fail
      refine (C1.out _).mono ?_
      rintro e w' ⟨rfl, rfl⟩
      go_wp2_with fail
      go_ret2
      exact ⟨rfl, rfl⟩
  · have o2 : (FloatKind.f64.format.order b 4895412794951729152 == some .gt || FloatKind.f64.format.order b 4895412794951729152 == some .eq) = true := by
      by_cases g : b = 4895412794951729152
      · rw [oeq b _ hb (by omega) hn (by omega) (by rw [g])]; rfl
      · rw [ogt b _ hb (by omega) hn (by omega) (by rw [key_64]; omega)]; rfl
    have o := ogt b 4607182418800017408 hb (by omega) hn (by omega) (by rw [key_1]; omega)
    have hk : kd b = 5 ∨ kd b = 6 := by omega
    clear h hb k kc hn h' k0 k6
    rcases hk with hk | hk
    all_goals
      rw [hk] at C1
      clear hk
      go_enter Try.func11, Try.ntmps11
      go_wp2_with fail
      refine (C1.out _).mono ?_
      rintro e w' ⟨rfl, rfl⟩
      go_wp2_with fail
      refine (max_any _).mono ?_
      rintro e w' ⟨rfl, rfl⟩
      go_wp2_with fail
      go_ret2
      exact ⟨rfl, rfl⟩
  · have C2 := Lib.hid (fun w => whole_any b w h h')
    have o : (FloatKind.f64.format.order b 4607182418800017408 == some .lt) = false := by
      by_cases g : b = 4607182418800017408
      · rw [oeq b _ hb (by omega) hn (by omega) (by rw [g])]; rfl
      · rw [ogt b _ hb (by omega) hn (by omega) (by rw [key_1]; omega)]; rfl
    have o2 := olt b 4895412794951729152 hb (by omega) hn (by omega) (by rw [key_64]; omega)
    have hk : kd b = 5 := by omega
    clear h hb k kc hn h' k0 k6
    rw [hk] at C1
    clear hk
    go_enter Try.func11, Try.ntmps11
    go_wp2_with fail
    refine (C1.out _).mono ?_
    rintro e w' ⟨rfl, rfl⟩
    go_wp2_with fail
    refine (C2.out _).mono ?_
    rintro e w' ⟨rfl, rfl⟩
    go_wp2_with fail
    go_ret2
    exact ⟨rfl, rfl⟩

set_option maxHeartbeats 400000 in
theorem least_any (a b : Nat) (w : World) (ha : a < 18446744073709551616) (hb : b < 18446744073709551616) :
    Calls Try.prog 18 #[.float .f64 a, .float .f64 b] w fun e w' => e = .returned (.float .f64 (ls a b)) ∧ w = w' := by
  have kc := kd_cases a ha
  have C1 := Lib.hid (fun w => kind_any a w ha)
  unfold ls
  by_cases h : 9218868437227405312 < a % 9223372036854775808
  · rw [if_pos (.inl h)]
    have k0 : kd a = 0 := by omega
    rw [k0] at C1
    clear h hb ha k0 kc
    go_enter Try.func18, Try.ntmps18
    go_wp2_with fail
    refine (C1.out _).mono ?_
    rintro e w' ⟨rfl, rfl⟩
    go_wp2_with fail
    go_ret
    exact ⟨rfl, rfl⟩
  have k0 : (kd a == 0) = false := by rw [beq_eq_false_iff_ne]; omega
  by_cases g : b % 9223372036854775808 ≤ 9218868437227405312 ∧ key b < key a
  · rw [if_pos (.inr g)]
    have o := olt b a hb ha g.1 (by omega) g.2
    clear h hb ha g kc
    go_enter Try.func18, Try.ntmps18
    go_wp2_with fail
    refine (C1.out _).mono ?_
    rintro e w' ⟨rfl, rfl⟩
    go_wp2_with fail
    go_ret
    exact ⟨rfl, rfl⟩
  · rw [if_neg (by omega)]
    have o : (FloatKind.f64.format.order b a == some .lt) = false := by
      by_cases n : 9218868437227405312 < b % 9223372036854775808
      · rw [onl b a n]; rfl
      by_cases e : key b = key a
      · rw [oeq b a hb ha (by omega) (by omega) e]; rfl
      · rw [ogt b a hb ha (by omega) (by omega) (by omega)]; rfl
    clear h hb ha g kc
    go_enter Try.func18, Try.ntmps18
    go_wp2_with fail
    refine (C1.out _).mono ?_
    rintro e w' ⟨rfl, rfl⟩
    go_wp2_with fail
    go_ret
    exact ⟨rfl, rfl⟩

theorem same_self (a : Nat) (w : World) (ha : a < 18446744073709551616) :
    Calls Try.prog 16 #[.float .f64 a, .float .f64 a] w fun e w' => e = .returned (.bool true) ∧ w = w' := by
  have C1 := Lib.hid (fun w => kind_any a w ha)
  have eb := fbits a
  by_cases h : kd a = 0
  · rw [h] at C1
    clear h ha
    go_enter Try.func16, Try.ntmps16
    go_wp2_with fail
    refine (C1.out _).mono ?_
    rintro e w' ⟨rfl, rfl⟩
    go_wp2_with fail
    refine (C1.out _).mono ?_
    rintro e w' ⟨rfl, rfl⟩
    go_wp2_with fail
    go_ret
    exact ⟨rfl, rfl⟩
  · have k0 : (kd a == 0) = false := by rw [beq_eq_false_iff_ne]; omega
    clear h ha
    go_enter Try.func16, Try.ntmps16
    go_wp2_with fail
    refine (C1.out _).mono ?_
    rintro e w' ⟨rfl, rfl⟩
    go_wp2_with fail
    go_ret
    exact ⟨rfl, rfl⟩

set_option maxHeartbeats 400000 in
theorem share_no (x : Nat) (n : Int) (w : World) (hb : x < 18446744073709551616) (h : ¬ inS x ∨ n < 0 ∨ 100000 < n) :
    Calls Try.prog 13 #[.float .f64 x, .int .i64 n] w fun e w' => e = .returned (.tuple #[.int .i64 0, .int .i64 1]) ∧ w = w' := by
  have kc := kd_cases x hb
  obtain ⟨k0, k6⟩ := kd_bd x hb
  have C1 := Lib.hid (fun w => kind_any x w hb)
  unfold inS at h
  by_cases h1 : kd x < 3
  · clear kc h hb
    generalize kd x = K at *
    go_enter Try.func13, Try.ntmps13
    go_wp2_with fail
    refine (C1.out _).mono ?_
    rintro e w' ⟨rfl, rfl⟩
    go_wp2_with fail
    go_ret2
    exact ⟨rfl, rfl⟩
  by_cases h2 : kd x = 6
  · rw [h2] at C1
    clear kc h hb k0 k6 h1 h2
    go_enter Try.func13, Try.ntmps13
    go_wp2_with fail
    refine (C1.out _).mono ?_
    rintro e w' ⟨rfl, rfl⟩
    go_wp2_with fail
    go_ret2
    exact ⟨rfl, rfl⟩
  have h2' : (kd x == 6) = false := by rw [beq_eq_false_iff_ne]; omega
  have hx := key_spec x
  by_cases h3 : 4607182418800017408 < key x
  · have o := ogt x 4607182418800017408 hb (by omega) (by omega) (by omega) (by rw [key_1]; omega)
    clear kc h hb h3 h2 hx
    generalize kd x = K at *
    go_enter Try.func13, Try.ntmps13
    go_wp2_with fail
    refine (C1.out _).mono ?_
    rintro e w' ⟨rfl, rfl⟩
    go_wp2_with fail
    go_ret2
    exact ⟨rfl, rfl⟩
  have o : (FloatKind.f64.format.order x 4607182418800017408 == some .gt) = false := by
    by_cases g : key x = 4607182418800017408
    · rw [oeq x _ hb (by omega) (by omega) (by omega) (by rw [key_1]; omega)]; rfl
    · rw [olt x _ hb (by omega) (by omega) (by omega) (by rw [key_1]; omega)]; rfl
  have h4 : n < 0 ∨ 100000 < n := by omega
  clear kc h hb h3 h2 hx
  generalize kd x = K at *
  rcases h4 with h4 | h4
  · go_enter Try.func13, Try.ntmps13
    go_wp2_with fail
    refine (C1.out _).mono ?_
    rintro e w' ⟨rfl, rfl⟩
    go_wp2_with fail
    go_ret2
    exact ⟨rfl, rfl⟩
  · have h5 : ¬ n < 0 := by omega
    go_enter Try.func13, Try.ntmps13
    go_wp2_with fail
    refine (C1.out _).mono ?_
    rintro e w' ⟨rfl, rfl⟩
    go_wp2_with fail
    go_ret2
    exact ⟨rfl, rfl⟩

set_option maxHeartbeats 400000 in
theorem share_yes (x n : Nat) (w : World) (h : inS x) (hn : n ≤ 100000) :
    Calls Try.prog 13 #[.float .f64 x, .int .i64 (n : Int)] w fun e w' => e = .returned (.tuple #[.int .i64 ((fl (shr x n) : Nat) : Int), .int .i64 0]) ∧ w = w' := by
  obtain ⟨f, e1, e2, e3, e4, e5, e6, e7⟩ := shw_spec x n h hn
  unfold inS at h
  have hb : x < 18446744073709551616 := by omega
  have kc := kd_cases x hb
  have kx := key_spec x
  have C1 := Lib.hid (fun w => kind_any x w hb)
  have c2 : ∀ w, (binOp .mul 22 (.float .f64 x) (.float .f64 f)).run Try.prog w = .ok (.float .f64 (shw x n)) w := fun w => run_float_arith w .mul _ .f64 x f _ e2
  have k1 : ¬ kd x < 3 := by omega
  have k2 : (kd x == 6) = false := by rw [beq_eq_false_iff_ne]; omega
  have o : (FloatKind.f64.format.order x 4607182418800017408 == some .gt) = false := by
    by_cases g : key x = 4607182418800017408
    · rw [oeq x _ hb (by omega) (by omega) (by omega) (by rw [key_1]; omega)]; rfl
    · rw [olt x _ hb (by omega) (by omega) (by omega) (by rw [key_1]; omega)]; rfl
  have h1 : ¬ (n : Int) < 0 := by omega
  have h2 : ¬ 100000 < (n : Int) := by omega
  have ky := key_spec (shw x n)
  by_cases g : shr x n < 4607182418800017408
  · have z := fl_zero_of _ g
    have o2 := olt (shw x n) 4607182418800017408 e3 (by omega) (by omega) (by omega) (by rw [key_1]; omega)
    rw [z]
    clear e2 e3 e4 e5 e6 e7 h hn z g ky kx kc hb
    generalize shw x n = y at *
    generalize kd x = K at *
    go_enter Try.func13, Try.ntmps13
    go_wp2_with fail
    refine (C1.out _).mono ?_
    rintro e w' ⟨rfl, rfl⟩
    go_wp2_with fail
    go_ret2
    exact ⟨rfl, rfl⟩
  · have hs : shw x n = shr x n := by
      by_cases q : 9223372036854775808 ≤ shw x n
      · have := e7 q; omega
      · omega
    rw [hs] at c2 e3 ky
    have o2 : (FloatKind.f64.format.order (shr x n) 4607182418800017408 == some .lt) = false := by
      by_cases q : key (shr x n) = 4607182418800017408
      · rw [oeq _ _ e3 (by omega) (by omega) (by omega) (by rw [key_1]; omega)]; rfl
      · rw [ogt _ _ e3 (by omega) (by omega) (by omega) (by rw [key_1]; omega)]; rfl
    have C2 := Lib.hid (fun w => whole_any (shr x n) w (by omega) (by omega))
    have z : ((fl (shr x n) : Nat) : Int) ≤ 100000 := by omega
    clear e2 e3 e4 e5 e6 e7 h hn g ky kx kc hb hs
    generalize fl (shr x n) = F at *
    generalize shr x n = y at *
    generalize kd x = K at *
    go_enter Try.func13, Try.ntmps13
    go_wp2_with fail
    refine (C1.out _).mono ?_
    rintro e w' ⟨rfl, rfl⟩
    go_wp2_with fail
    refine (C2.out _).mono ?_
    rintro e w' ⟨rfl, rfl⟩
    go_wp2_with fail
    go_ret2
    exact ⟨rfl, rfl⟩

end R3
end Go.Proofs.Ytleldlcjhaaadaa
