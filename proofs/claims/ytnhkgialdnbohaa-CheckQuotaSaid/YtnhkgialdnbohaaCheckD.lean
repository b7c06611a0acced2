/- Contracts of check.Conf, Sectors, Quota and Bound, and of the document's own answers for them (lodgerref04), for every conf: both tell the same, and all memory that was there stays as it was. -/
import Derived.Test.YtnhkgialdnbohaaCheckC
namespace Go.Proofs.Ytnhkgialdnbohaa
open Go.RowKit Go.Lib Flt
set_option linter.unusedVariables false

/-- A conf that may be. -/
def MayC (sg sl : Int) (x : Nat) (rt : Int) : Prop := (4 ≤ sg ∧ sg ≤ 16) ∧ (1 ≤ sl ∧ sl ≤ 30) ∧ (0 ≤ rt ∧ rt ≤ 8) ∧ inS x
instance (sg sl : Int) (x : Nat) (rt : Int) : Decidable (MayC sg sl x rt) := by unfold MayC inS; infer_instance

theorem lay1 (sg sl rt : Int) (x : Nat) (w : World) : LiesC (w.alloc (.cells #[.int .i64 sg, .int .i64 sl, .float .f64 x, .int .i64 rt] 24)) w.heap.size sg sl x rt := by
  refine ⟨by simp, ?_, ?_, ?_, ?_⟩ <;> simp [World.cell?_alloc_at]
theorem lay2 (sg sl rt : Int) (x : Nat) (w : World) : LiesC ((w.alloc (.cells #[.int .i64 sg, .int .i64 sl, .float .f64 x, .int .i64 rt] 24)).alloc (.cells #[.func (.func 34) #[] #[], .func (.func 35) #[] #[], .func (.func 36) #[] #[], .func (.func 37) #[] #[]] 39)) w.heap.size sg sl x rt ∧ LiesQ ((w.alloc (.cells #[.int .i64 sg, .int .i64 sl, .float .f64 x, .int .i64 rt] 24)).alloc (.cells #[.func (.func 34) #[] #[], .func (.func 35) #[] #[], .func (.func 36) #[] #[], .func (.func 37) #[] #[]] 39)) (w.heap.size + 1) := by
  refine ⟨(lay1 sg sl rt x w).later ((Below.refl _ _).alloc (Nat.le_refl _) _), ?_⟩
  have e : (w.alloc (.cells #[.int .i64 sg, .int .i64 sl, .float .f64 x, .int .i64 rt] 24)).heap.size = w.heap.size + 1 := by simp
  rw [← e]
  refine ⟨by simp, ?_, ?_, ?_, ?_⟩ <;> simp [World.cell?_alloc_at]
theorem below2 (sg sl rt : Int) (x : Nat) (w : World) : Below w.heap.size w ((w.alloc (.cells #[.int .i64 sg, .int .i64 sl, .float .f64 x, .int .i64 rt] 24)).alloc (.cells #[.func (.func 34) #[] #[], .func (.func 35) #[] #[], .func (.func 36) #[] #[], .func (.func 37) #[] #[]] 39)) := ((Below.refl _ _).alloc (Nat.le_refl _) _).alloc (by simp) _

theorem conf_0 (sg sl rt : Int) (x : Nat) (w : World) (h0 : ¬ (4 ≤ sg ∧ sg ≤ 16)) :
    Calls Try.prog 12 #[.agg #[.int .i64 sg, .int .i64 sl, .float .f64 x, .int .i64 rt]] w fun e w' => e = .returned (.int .i64 1) ∧ Below w.heap.size w w' := by
  obtain ⟨L, M⟩ := lay2 sg sl rt x w
  have C := Lib.hid (con_0 sg sl rt x _ _ _ _ (Below.refl _ _) L M h0)
  have hz := (below2 sg sl rt x w).size
  clear L M
  go_enter Try.func12, Try.ntmps12
  go_wp2_with fail
  refine (questions_any _).mono ?_
  rintro e w' ⟨rfl, rfl⟩
  go_wp2_with fail
  refine C.out.mono ?_
  rintro e w1 ⟨rfl, hb⟩
  go_wp2_with fail
  go_ret
  exact ⟨rfl, (below2 sg sl rt x w).trans (hb.mono hz)⟩
theorem conf_1 (sg sl rt : Int) (x : Nat) (w : World) (h0 : 4 ≤ sg ∧ sg ≤ 16) (h1 : ¬ (1 ≤ sl ∧ sl ≤ 30)) :
    Calls Try.prog 12 #[.agg #[.int .i64 sg, .int .i64 sl, .float .f64 x, .int .i64 rt]] w fun e w' => e = .returned (.int .i64 1) ∧ Below w.heap.size w w' := by
  obtain ⟨L, M⟩ := lay2 sg sl rt x w
  have C := Lib.hid (con_1 sg sl rt x _ _ _ _ (Below.refl _ _) L M h0 h1)
  have hz := (below2 sg sl rt x w).size
  clear L M
  go_enter Try.func12, Try.ntmps12
  go_wp2_with fail
  refine (questions_any _).mono ?_
  rintro e w' ⟨rfl, rfl⟩
  go_wp2_with fail
  refine C.out.mono ?_
  rintro e w1 ⟨rfl, hb⟩
  go_wp2_with fail
  go_ret
  exact ⟨rfl, (below2 sg sl rt x w).trans (hb.mono hz)⟩
theorem conf_2 (sg sl rt : Int) (x : Nat) (w : World) (h0 : 4 ≤ sg ∧ sg ≤ 16) (h1 : 1 ≤ sl ∧ sl ≤ 30) (h2 : ¬ (0 ≤ rt ∧ rt ≤ 8)) :
    Calls Try.prog 12 #[.agg #[.int .i64 sg, .int .i64 sl, .float .f64 x, .int .i64 rt]] w fun e w' => e = .returned (.int .i64 1) ∧ Below w.heap.size w w' := by
  obtain ⟨L, M⟩ := lay2 sg sl rt x w
  have C := Lib.hid (con_2 sg sl rt x _ _ _ _ (Below.refl _ _) L M h0 h1 h2)
  have hz := (below2 sg sl rt x w).size
  clear L M
  go_enter Try.func12, Try.ntmps12
  go_wp2_with fail
  refine (questions_any _).mono ?_
  rintro e w' ⟨rfl, rfl⟩
  go_wp2_with fail
  refine C.out.mono ?_
  rintro e w1 ⟨rfl, hb⟩
  go_wp2_with fail
  go_ret
  exact ⟨rfl, (below2 sg sl rt x w).trans (hb.mono hz)⟩
theorem conf_3 (sg sl rt : Int) (x : Nat) (w : World) (hx : x < 18446744073709551616) (h0 : 4 ≤ sg ∧ sg ≤ 16) (h1 : 1 ≤ sl ∧ sl ≤ 30) (h2 : 0 ≤ rt ∧ rt ≤ 8) (h3 : ¬ (inS x)) :
    Calls Try.prog 12 #[.agg #[.int .i64 sg, .int .i64 sl, .float .f64 x, .int .i64 rt]] w fun e w' => e = .returned (.int .i64 1) ∧ Below w.heap.size w w' := by
  obtain ⟨L, M⟩ := lay2 sg sl rt x w
  have C := Lib.hid (con_3 sg sl rt x _ _ _ _ (Below.refl _ _) L M hx h0 h1 h2 h3)
  have hz := (below2 sg sl rt x w).size
  clear L M
  go_enter Try.func12, Try.ntmps12
  go_wp2_with fail
  refine (questions_any _).mono ?_
  rintro e w' ⟨rfl, rfl⟩
  go_wp2_with fail
  refine C.out.mono ?_
  rintro e w1 ⟨rfl, hb⟩
  go_wp2_with fail
  go_ret
  exact ⟨rfl, (below2 sg sl rt x w).trans (hb.mono hz)⟩
theorem conf_4 (sg sl rt : Int) (x : Nat) (w : World) (h0 : 4 ≤ sg ∧ sg ≤ 16) (h1 : 1 ≤ sl ∧ sl ≤ 30) (h2 : 0 ≤ rt ∧ rt ≤ 8) (h3 : inS x) :
    Calls Try.prog 12 #[.agg #[.int .i64 sg, .int .i64 sl, .float .f64 x, .int .i64 rt]] w fun e w' => e = .returned (.int .i64 0) ∧ Below w.heap.size w w' := by
  obtain ⟨L, M⟩ := lay2 sg sl rt x w
  have C := Lib.hid (con_4 sg sl rt x _ _ _ _ (Below.refl _ _) L M h0 h1 h2 h3)
  have hz := (below2 sg sl rt x w).size
  clear L M
  go_enter Try.func12, Try.ntmps12
  go_wp2_with fail
  refine (questions_any _).mono ?_
  rintro e w' ⟨rfl, rfl⟩
  go_wp2_with fail
  refine C.out.mono ?_
  rintro e w1 ⟨rfl, hb⟩
  go_wp2_with fail
  go_ret
  exact ⟨rfl, (below2 sg sl rt x w).trans (hb.mono hz)⟩

theorem conf_yes (sg sl rt : Int) (x : Nat) (w : World) (h : MayC sg sl x rt) :
    Calls Try.prog 12 #[.agg #[.int .i64 sg, .int .i64 sl, .float .f64 x, .int .i64 rt]] w fun e w' => e = .returned (.int .i64 0) ∧ Below w.heap.size w w' :=
  conf_4 sg sl rt x w h.1 h.2.1 h.2.2.1 h.2.2.2
theorem conf_no (sg sl rt : Int) (x : Nat) (w : World) (hx : x < 18446744073709551616) (h : ¬ MayC sg sl x rt) :
    Calls Try.prog 12 #[.agg #[.int .i64 sg, .int .i64 sl, .float .f64 x, .int .i64 rt]] w fun e w' => e = .returned (.int .i64 1) ∧ Below w.heap.size w w' := by
  by_cases h0 : 4 ≤ sg ∧ sg ≤ 16
  · by_cases h1 : 1 ≤ sl ∧ sl ≤ 30
    · by_cases h2 : 0 ≤ rt ∧ rt ≤ 8
      · by_cases h3 : inS x
        · exact absurd ⟨h0, h1, h2, h3⟩ h
        · exact conf_3 sg sl rt x w hx h0 h1 h2 h3
      · exact conf_2 sg sl rt x w h0 h1 h2
    · exact conf_1 sg sl rt x w h0 h1
  · exact conf_0 sg sl rt x w h0

/-- What a conf's calls tell. -/
def ceC (sg sl : Int) (x : Nat) (rt : Int) : Int := if MayC sg sl x rt then 0 else 1
def scC (sg sl : Int) (x : Nat) (rt : Int) : Int := if MayC sg sl x rt then 2 + sg * (sl + 1) else 0
def quC (sg sl : Int) (x : Nat) (rt : Int) : Int := if MayC sg sl x rt then ((fl (shr x (sl * (sg - 2)).toNat) : Nat) : Int) else 0
def boC (sg sl : Int) (x : Nat) (rt : Int) : Int := if MayC sg sl x rt then 3 * (1 + (sg - 1) * (sl + 2)) else 0

theorem conf_any (sg sl rt : Int) (x : Nat) (w : World) (hx : x < 18446744073709551616) :
    Calls Try.prog 12 #[.agg #[.int .i64 sg, .int .i64 sl, .float .f64 x, .int .i64 rt]] w fun e w' => e = .returned (.int .i64 (ceC sg sl x rt)) ∧ Below w.heap.size w w' := by
  unfold ceC
  by_cases h : MayC sg sl x rt
  · rw [if_pos h]; exact conf_yes sg sl rt x w h
  · rw [if_neg h]; exact conf_no sg sl rt x w hx h

/-- Products of small numbers are small. -/
theorem prod_bd (a b A B : Int) (a0 : 0 ≤ a) (a1 : a ≤ A) (b0 : 0 ≤ b) (b1 : b ≤ B) : 0 ≤ a * b ∧ a * b ≤ A * B :=
  ⟨Int.mul_nonneg a0 b0, Int.mul_le_mul a1 b1 b0 (Int.le_trans a0 a1)⟩
theorem sectors_any (sg sl rt : Int) (x : Nat) (w : World) (hx : x < 18446744073709551616) :
    Calls Try.prog 14 #[.agg #[.int .i64 sg, .int .i64 sl, .float .f64 x, .int .i64 rt]] w fun e w' => e = .returned (.int .i64 (scC sg sl x rt)) ∧ Below w.heap.size w w' := by
  have L := lay1 sg sl rt x w
  obtain ⟨g0, g1, g2, g3, g4⟩ := L
  unfold scC
  by_cases h : MayC sg sl x rt
  · rw [if_pos h]
    have C := Lib.hid (fun w => conf_yes sg sl rt x w h)
    obtain ⟨⟨s0, s1⟩, ⟨l0, l1⟩, ⟨r0, r1⟩, _⟩ := h
    have p := prod_bd sg (sl + 1) 16 31 (by omega) (by omega) (by omega) (by omega)
    obtain ⟨p0, p1⟩ := p
    clear g0 g1 g2 g3 g4
    go_enter Try.func14, Try.ntmps14
    go_wp2_with fail
    refine (C.out _).mono ?_
    rintro e w1 ⟨rfl, hb⟩
    obtain ⟨hB, c0, c1, c2, c3⟩ := (lay1 sg sl rt x w).later hb
    go_wp2_with fail
    go_ret
    exact ⟨rfl, ((Below.refl _ _).alloc (Nat.le_refl _) _).trans (hb.mono (by simp))⟩
  · rw [if_neg h]
    have C := Lib.hid (fun w => conf_no sg sl rt x w hx h)
    clear h g0 g1 g2 g3 g4
    go_enter Try.func14, Try.ntmps14
    go_wp2_with fail
    refine (C.out _).mono ?_
    rintro e w1 ⟨rfl, hb⟩
    go_wp2_with fail
    go_ret
    exact ⟨rfl, ((Below.refl _ _).alloc (Nat.le_refl _) _).trans (hb.mono (by simp))⟩
theorem bound_any (sg sl rt : Int) (x : Nat) (w : World) (hx : x < 18446744073709551616) :
    Calls Try.prog 18 #[.agg #[.int .i64 sg, .int .i64 sl, .float .f64 x, .int .i64 rt]] w fun e w' => e = .returned (.int .i64 (boC sg sl x rt)) ∧ Below w.heap.size w w' := by
  have L := lay1 sg sl rt x w
  obtain ⟨g0, g1, g2, g3, g4⟩ := L
  unfold boC
  by_cases h : MayC sg sl x rt
  · rw [if_pos h]
    have C := Lib.hid (fun w => conf_yes sg sl rt x w h)
    obtain ⟨⟨s0, s1⟩, ⟨l0, l1⟩, ⟨r0, r1⟩, _⟩ := h
    have p := prod_bd (sg - 1) (sl + 2) 15 32 (by omega) (by omega) (by omega) (by omega)
    obtain ⟨p0, p1⟩ := p
    clear g0 g1 g2 g3 g4
    go_enter Try.func18, Try.ntmps18
    go_wp2_with fail
    refine (C.out _).mono ?_
    rintro e w1 ⟨rfl, hb⟩
    obtain ⟨hB, c0, c1, c2, c3⟩ := (lay1 sg sl rt x w).later hb
    go_wp2_with fail
    go_ret
    exact ⟨rfl, ((Below.refl _ _).alloc (Nat.le_refl _) _).trans (hb.mono (by simp))⟩
  · rw [if_neg h]
    have C := Lib.hid (fun w => conf_no sg sl rt x w hx h)
    clear h g0 g1 g2 g3 g4
    go_enter Try.func18, Try.ntmps18
    go_wp2_with fail
    refine (C.out _).mono ?_
    rintro e w1 ⟨rfl, hb⟩
    go_wp2_with fail
    go_ret
    exact ⟨rfl, ((Below.refl _ _).alloc (Nat.le_refl _) _).trans (hb.mono (by simp))⟩
theorem quota_any (sg sl rt : Int) (x : Nat) (w : World) (hx : x < 18446744073709551616) :
    Calls Try.prog 16 #[.agg #[.int .i64 sg, .int .i64 sl, .float .f64 x, .int .i64 rt]] w fun e w' => e = .returned (.int .i64 (quC sg sl x rt)) ∧ Below w.heap.size w w' := by
  unfold quC
  by_cases h : MayC sg sl x rt
  · rw [if_pos h]
    have C := Lib.hid (fun w => conf_yes sg sl rt x w h)
    obtain ⟨⟨s0, s1⟩, ⟨l0, l1⟩, ⟨r0, r1⟩, hs⟩ := h
    have p := prod_bd sl (sg - 2) 30 14 (by omega) (by omega) (by omega) (by omega)
    obtain ⟨p0, p1⟩ := p
    have D : Hid (∀ w, Calls Try.prog 28 #[.float .f64 x, .int .i64 (sl * (sg - 2))] w fun e w' => e = .returned (.tuple #[.int .i64 ((fl (shr x (sl * (sg - 2)).toNat) : Nat) : Int), .int .i64 0]) ∧ w = w') := by
      refine Lib.hid (fun w => ?_)
      have e : ((sl * (sg - 2)).toNat : Int) = sl * (sg - 2) := by rw [Int.toNat_of_nonneg (Int.mul_nonneg (by omega) (by omega))]
      rw [← e]
      exact share_yes x _ w hs (by omega)
    generalize fl (shr x (sl * (sg - 2)).toNat) = q at *
    go_enter Try.func16, Try.ntmps16
    go_wp2_with fail
    refine (C.out _).mono ?_
    rintro e w1 ⟨rfl, hb⟩
    obtain ⟨hB, c0, c1, c2, c3⟩ := (lay1 sg sl rt x w).later hb
    go_wp2_with fail
    refine (D.out _).mono ?_
    rintro e w2 ⟨rfl, rfl⟩
    go_wp2_with fail
    go_ret
    exact ⟨rfl, ((Below.refl _ _).alloc (Nat.le_refl _) _).trans (hb.mono (by simp))⟩
  · rw [if_neg h]
    have C := Lib.hid (fun w => conf_no sg sl rt x w hx h)
    clear h
    go_enter Try.func16, Try.ntmps16
    go_wp2_with fail
    refine (C.out _).mono ?_
    rintro e w1 ⟨rfl, hb⟩
    go_wp2_with fail
    go_ret
    exact ⟨rfl, ((Below.refl _ _).alloc (Nat.le_refl _) _).trans (hb.mono (by simp))⟩

namespace R4
set_option maxHeartbeats 1000000 in
theorem may_yes (sg sl rt : Int) (x : Nat) (w : World) (h : MayC sg sl x rt) :
    Calls Try.prog 27 #[.agg #[.int .i64 sg, .int .i64 sl, .float .f64 x, .int .i64 rt]] w fun e w' => e = .returned (.bool true) ∧ Below w.heap.size w w' := by
  obtain ⟨⟨s0, s1⟩, ⟨l0, l1⟩, ⟨r0, r1⟩, hs⟩ := h
  unfold inS at hs
  have hx : x < 18446744073709551616 := by omega
  have kc := kd_cases x hx
  have kx := key_spec x
  have C1 := Lib.hid (fun w => R3.kind_any x w hx)
  have hk : kd x = 3 ∨ kd x = 4 ∨ kd x = 5 := by omega
  have o2 : (FloatKind.f64.format.order x 4607182418800017408 == some .lt || FloatKind.f64.format.order x 4607182418800017408 == some .eq) = true := by
    by_cases g : key x = 4607182418800017408
    · rw [oeq x _ hx (by omega) (by omega) (by omega) (by rw [key_1]; omega)]; rfl
    · rw [olt x _ hx (by omega) (by omega) (by omega) (by rw [key_1]; omega)]; rfl
  clear hs kc kx hx
  rcases hk with hk | hk | hk
  all_goals
    rw [hk] at C1
    clear hk
    go_enter Try.func27, Try.ntmps27
    go_wp2_with fail
    refine (C1.out _).mono ?_
    rintro e w' ⟨rfl, rfl⟩
    go_wp2_with fail
    go_ret
    exact ⟨rfl, (Below.refl _ _).alloc (Nat.le_refl _) _⟩

set_option maxHeartbeats 1000000 in
theorem may_no (sg sl rt : Int) (x : Nat) (w : World) (hx : x < 18446744073709551616) (h : ¬ MayC sg sl x rt) :
    Calls Try.prog 27 #[.agg #[.int .i64 sg, .int .i64 sl, .float .f64 x, .int .i64 rt]] w fun e w' => e = .returned (.bool false) ∧ Below w.heap.size w w' := by
  have C1 := Lib.hid (fun w => R3.kind_any x w hx)
  have kc := kd_cases x hx
  have kx := key_spec x
  unfold MayC inS at h
  by_cases t0 : 4 ≤ sg
  case neg =>
    clear h kc kx hx
    generalize kd x = K at *
    go_enter Try.func27, Try.ntmps27
    go_wp2_with fail
    refine (C1.out _).mono ?_
    rintro e w' ⟨rfl, rfl⟩
    go_wp2_with fail
    go_ret
    exact ⟨rfl, (Below.refl _ _).alloc (Nat.le_refl _) _⟩
  case pos =>
  by_cases t1 : sg ≤ 16
  case neg =>
    clear h kc kx hx
    generalize kd x = K at *
    go_enter Try.func27, Try.ntmps27
    go_wp2_with fail
    refine (C1.out _).mono ?_
    rintro e w' ⟨rfl, rfl⟩
    go_wp2_with fail
    go_ret
    exact ⟨rfl, (Below.refl _ _).alloc (Nat.le_refl _) _⟩
  case pos =>
  by_cases t2 : 1 ≤ sl
  case neg =>
    clear h kc kx hx
    generalize kd x = K at *
    go_enter Try.func27, Try.ntmps27
    go_wp2_with fail
    refine (C1.out _).mono ?_
    rintro e w' ⟨rfl, rfl⟩
    go_wp2_with fail
    go_ret
    exact ⟨rfl, (Below.refl _ _).alloc (Nat.le_refl _) _⟩
  case pos =>
  by_cases t3 : sl ≤ 30
  case neg =>
    clear h kc kx hx
    generalize kd x = K at *
    go_enter Try.func27, Try.ntmps27
    go_wp2_with fail
    refine (C1.out _).mono ?_
    rintro e w' ⟨rfl, rfl⟩
    go_wp2_with fail
    go_ret
    exact ⟨rfl, (Below.refl _ _).alloc (Nat.le_refl _) _⟩
  case pos =>
  by_cases t4 : 0 ≤ rt
  case neg =>
    clear h kc kx hx
    generalize kd x = K at *
    go_enter Try.func27, Try.ntmps27
    go_wp2_with fail
    refine (C1.out _).mono ?_
    rintro e w' ⟨rfl, rfl⟩
    go_wp2_with fail
    go_ret
    exact ⟨rfl, (Below.refl _ _).alloc (Nat.le_refl _) _⟩
  case pos =>
  by_cases t5 : rt ≤ 8
  case neg =>
    clear h kc kx hx
    generalize kd x = K at *
    go_enter Try.func27, Try.ntmps27
    go_wp2_with fail
    refine (C1.out _).mono ?_
    rintro e w' ⟨rfl, rfl⟩
    go_wp2_with fail
    go_ret
    exact ⟨rfl, (Below.refl _ _).alloc (Nat.le_refl _) _⟩
  case pos =>
  have hs : ¬ (x ≤ 4607182418800017408 ∨ x = 9223372036854775808) := fun q => h ⟨⟨t0, t1⟩, ⟨t2, t3⟩, ⟨t4, t5⟩, q⟩
  by_cases k5 : kd x = 5
  · have o2 := ogt x 4607182418800017408 hx (by omega) (by omega) (by omega) (by rw [key_1]; omega)
    rw [k5] at C1
    clear h kc kx hx hs k5
    go_enter Try.func27, Try.ntmps27
    go_wp2_with fail
    refine (C1.out _).mono ?_
    rintro e w' ⟨rfl, rfl⟩
    go_wp2_with fail
    go_ret
    exact ⟨rfl, (Below.refl _ _).alloc (Nat.le_refl _) _⟩
  · have e3 : (kd x == 3) = false := by rw [beq_eq_false_iff_ne]; omega
    have e4 : (kd x == 4) = false := by rw [beq_eq_false_iff_ne]; omega
    have e5 : (kd x == 5) = false := by rw [beq_eq_false_iff_ne]; omega
    clear h kc kx hx hs k5
    generalize kd x = K at *
    go_enter Try.func27, Try.ntmps27
    go_wp2_with fail
    refine (C1.out _).mono ?_
    rintro e w' ⟨rfl, rfl⟩
    go_wp2_with fail
    go_ret
    exact ⟨rfl, (Below.refl _ _).alloc (Nat.le_refl _) _⟩

theorem conf_any (sg sl rt : Int) (x : Nat) (w : World) (hx : x < 18446744073709551616) :
    Calls Try.prog 13 #[.agg #[.int .i64 sg, .int .i64 sl, .float .f64 x, .int .i64 rt]] w fun e w' => e = .returned (.int .i64 (ceC sg sl x rt)) ∧ Below w.heap.size w w' := by
  obtain ⟨g0, g1, g2, g3, g4⟩ := lay1 sg sl rt x w
  unfold ceC
  by_cases h : MayC sg sl x rt
  · rw [if_pos h]
    have C := Lib.hid (fun w => may_yes sg sl rt x w h)
    clear h g0 g1 g2 g3 g4
    go_enter Try.func13, Try.ntmps13
    go_wp2_with fail
    refine (C.out _).mono ?_
    rintro e w1 ⟨rfl, hb⟩
    go_wp2_with fail
    go_ret
    exact ⟨rfl, ((Below.refl _ _).alloc (Nat.le_refl _) _).trans (hb.mono (by simp))⟩
  · rw [if_neg h]
    have C := Lib.hid (fun w => may_no sg sl rt x w hx h)
    clear h g0 g1 g2 g3 g4
    go_enter Try.func13, Try.ntmps13
    go_wp2_with fail
    refine (C.out _).mono ?_
    rintro e w1 ⟨rfl, hb⟩
    go_wp2_with fail
    go_ret
    exact ⟨rfl, ((Below.refl _ _).alloc (Nat.le_refl _) _).trans (hb.mono (by simp))⟩
theorem sectors_any (sg sl rt : Int) (x : Nat) (w : World) (hx : x < 18446744073709551616) :
    Calls Try.prog 15 #[.agg #[.int .i64 sg, .int .i64 sl, .float .f64 x, .int .i64 rt]] w fun e w' => e = .returned (.int .i64 (scC sg sl x rt)) ∧ Below w.heap.size w w' := by
  have L := lay1 sg sl rt x w
  obtain ⟨g0, g1, g2, g3, g4⟩ := L
  unfold scC
  by_cases h : MayC sg sl x rt
  · rw [if_pos h]
    have C := Lib.hid (fun w => may_yes sg sl rt x w h)
    obtain ⟨⟨s0, s1⟩, ⟨l0, l1⟩, ⟨r0, r1⟩, _⟩ := h
    have p := prod_bd sg (sl + 1) 16 31 (by omega) (by omega) (by omega) (by omega)
    obtain ⟨p0, p1⟩ := p
    clear g0 g1 g2 g3 g4
    go_enter Try.func15, Try.ntmps15
    go_wp2_with fail
    refine (C.out _).mono ?_
    rintro e w1 ⟨rfl, hb⟩
    obtain ⟨hB, c0, c1, c2, c3⟩ := (lay1 sg sl rt x w).later hb
    go_wp2_with fail
    go_ret
    exact ⟨rfl, ((Below.refl _ _).alloc (Nat.le_refl _) _).trans (hb.mono (by simp))⟩
  · rw [if_neg h]
    have C := Lib.hid (fun w => may_no sg sl rt x w hx h)
    clear h g0 g1 g2 g3 g4
    go_enter Try.func15, Try.ntmps15
    go_wp2_with fail
    refine (C.out _).mono ?_
    rintro e w1 ⟨rfl, hb⟩
    go_wp2_with fail
    go_ret
    exact ⟨rfl, ((Below.refl _ _).alloc (Nat.le_refl _) _).trans (hb.mono (by simp))⟩
theorem bound_any (sg sl rt : Int) (x : Nat) (w : World) (hx : x < 18446744073709551616) :
    Calls Try.prog 19 #[.agg #[.int .i64 sg, .int .i64 sl, .float .f64 x, .int .i64 rt]] w fun e w' => e = .returned (.int .i64 (boC sg sl x rt)) ∧ Below w.heap.size w w' := by
  have L := lay1 sg sl rt x w
  obtain ⟨g0, g1, g2, g3, g4⟩ := L
  unfold boC
  by_cases h : MayC sg sl x rt
  · rw [if_pos h]
    have C := Lib.hid (fun w => may_yes sg sl rt x w h)
    obtain ⟨⟨s0, s1⟩, ⟨l0, l1⟩, ⟨r0, r1⟩, _⟩ := h
    have p := prod_bd (sg - 1) (sl + 2) 15 32 (by omega) (by omega) (by omega) (by omega)
    obtain ⟨p0, p1⟩ := p
    clear g0 g1 g2 g3 g4
    go_enter Try.func19, Try.ntmps19
    go_wp2_with fail
    refine (C.out _).mono ?_
    rintro e w1 ⟨rfl, hb⟩
    obtain ⟨hB, c0, c1, c2, c3⟩ := (lay1 sg sl rt x w).later hb
    go_wp2_with fail
    go_ret
    exact ⟨rfl, ((Below.refl _ _).alloc (Nat.le_refl _) _).trans (hb.mono (by simp))⟩
  · rw [if_neg h]
    have C := Lib.hid (fun w => may_no sg sl rt x w hx h)
    clear h g0 g1 g2 g3 g4
    go_enter Try.func19, Try.ntmps19
    go_wp2_with fail
    refine (C.out _).mono ?_
    rintro e w1 ⟨rfl, hb⟩
    go_wp2_with fail
    go_ret
    exact ⟨rfl, ((Below.refl _ _).alloc (Nat.le_refl _) _).trans (hb.mono (by simp))⟩
theorem quota_any (sg sl rt : Int) (x : Nat) (w : World) (hx : x < 18446744073709551616) :
    Calls Try.prog 17 #[.agg #[.int .i64 sg, .int .i64 sl, .float .f64 x, .int .i64 rt]] w fun e w' => e = .returned (.int .i64 (quC sg sl x rt)) ∧ Below w.heap.size w w' := by
  unfold quC
  by_cases h : MayC sg sl x rt
  · rw [if_pos h]
    have C := Lib.hid (fun w => may_yes sg sl rt x w h)
    obtain ⟨⟨s0, s1⟩, ⟨l0, l1⟩, ⟨r0, r1⟩, hs⟩ := h
    have p := prod_bd (sg - 2) sl 14 30 (by omega) (by omega) (by omega) (by omega)
    obtain ⟨p0, p1⟩ := p
    have D : Hid (∀ w, Calls Try.prog 29 #[.float .f64 x, .int .i64 ((sg - 2) * sl)] w fun e w' => e = .returned (.tuple #[.int .i64 ((fl (shr x (sl * (sg - 2)).toNat) : Nat) : Int), .int .i64 0]) ∧ w = w') := by
      refine Lib.hid (fun w => ?_)
      have e : ((sl * (sg - 2)).toNat : Int) = (sg - 2) * sl := by rw [Int.toNat_of_nonneg (Int.mul_nonneg (by omega) (by omega))]; exact Int.mul_comm _ _
      rw [← e]
      exact R3.share_yes x _ w hs (by omega)
    generalize fl (shr x (sl * (sg - 2)).toNat) = q at *
    go_enter Try.func17, Try.ntmps17
    go_wp2_with fail
    refine (C.out _).mono ?_
    rintro e w1 ⟨rfl, hb⟩
    obtain ⟨hB, c0, c1, c2, c3⟩ := (lay1 sg sl rt x w).later hb
    go_wp2_with fail
    refine (D.out _).mono ?_
    rintro e w2 ⟨rfl, rfl⟩
    go_wp2_with fail
    go_ret
    exact ⟨rfl, ((Below.refl _ _).alloc (Nat.le_refl _) _).trans (hb.mono (by simp))⟩
  · rw [if_neg h]
    have C := Lib.hid (fun w => may_no sg sl rt x w hx h)
    clear h
    go_enter Try.func17, Try.ntmps17
    go_wp2_with fail
    refine (C.out _).mono ?_
    rintro e w1 ⟨rfl, hb⟩
    go_wp2_with fail
    go_ret
    exact ⟨rfl, ((Below.refl _ _).alloc (Nat.le_refl _) _).trans (hb.mono (by simp))⟩
end R4
end Go.Proofs.Ytnhkgialdnbohaa
