/- Contracts of the calls of package check that are about confs (Conf, Sectors, Quota, Bound, with the questions, the closure that asks them and slices.ContainsFunc), for every conf: what each returns, and that all memory that was there stays as it was. -/
import Derived.Test.YtnhkgialdnbohaaCheckA
import Derived.LoopN
namespace Go.Proofs.Ytnhkgialdnbohaa
open Go.RowKit Go.Lib Flt
set_option linter.unusedVariables false

theorem bcell {W w1 : World} (hb : Below W.heap.size W w1) : (∀ b o, b < W.heap.size → w1.cell? ⟨b, o, none⟩ = W.cell? ⟨b, o, none⟩) ∧ (∀ b o, b < W.heap.size → w1.frozen? ⟨b, o, none⟩ = W.frozen? ⟨b, o, none⟩) :=
  ⟨fun b o h => hb.cell (p := ⟨b, o, none⟩) h, fun b o h => hb.frozen (p := ⟨b, o, none⟩) h⟩

theorem winf_yes (x : Nat) (w : World) (h : inS x) :
    Calls Try.prog 38 #[.float .f64 x, .float .f64 0, .float .f64 4607182418800017408] w fun e w' => e = .returned (.bool true) ∧ w = w' := by
  unfold inS at h
  have k := key_spec x
  have hb : x < 18446744073709551616 := by omega
  have hn : x % 9223372036854775808 ≤ 9218868437227405312 := by omega
  have o1 : (FloatKind.f64.format.order x 0 == some .gt || FloatKind.f64.format.order x 0 == some .eq) = true := by
    by_cases g : key x = 0
    · rw [oeq x 0 hb (by omega) hn (by omega) g]; rfl
    · rw [ogt x 0 hb (by omega) hn (by omega) (by rw [key_0]; omega)]; rfl
  have o2 : (FloatKind.f64.format.order x 4607182418800017408 == some .lt || FloatKind.f64.format.order x 4607182418800017408 == some .eq) = true := by
    by_cases g : x = 4607182418800017408
    · rw [oeq x _ hb (by omega) hn (by omega) (by rw [g])]; rfl
    · rw [olt x _ hb (by omega) hn (by omega) (by rw [key_1]; omega)]; rfl
  clear k hb hn h
  go_enter Try.func38, Try.ntmps38
  go_wp2
  go_ret
  exact ⟨rfl, rfl⟩

theorem winf_no (x : Nat) (w : World) (hb : x < 18446744073709551616) (h : ¬ inS x) :
    Calls Try.prog 38 #[.float .f64 x, .float .f64 0, .float .f64 4607182418800017408] w fun e w' => e = .returned (.bool false) ∧ w = w' := by
  unfold inS at h
  have k := key_spec x
  by_cases hn : x % 9223372036854775808 ≤ 9218868437227405312
  · by_cases g : key x < 0
    · have o := olt x 0 hb (by omega) hn (by omega) (by rw [key_0]; omega)
      clear k hb hn h g
      go_enter Try.func38, Try.ntmps38
      go_wp2
      go_ret
      exact ⟨rfl, rfl⟩
    · have o1 := ogt x 0 hb (by omega) hn (by omega) (by rw [key_0]; omega)
      have o2 := ogt x 4607182418800017408 hb (by omega) hn (by omega) (by rw [key_1]; omega)
      clear k hb hn h g
      go_enter Try.func38, Try.ntmps38
      go_wp2
      go_ret
      exact ⟨rfl, rfl⟩
  · have o := onl x 0 (by omega)
    clear k hb hn h
    go_enter Try.func38, Try.ntmps38
    go_wp2
    go_ret
    exact ⟨rfl, rfl⟩

theorem q1_yes (sg sl rt : Int) (x : Nat) (w : World) (h : 4 ≤ sg ∧ sg ≤ 16) :
    Calls Try.prog 34 #[.agg #[.int .i64 sg, .int .i64 sl, .float .f64 x, .int .i64 rt]] w fun e w' => e = .returned (.bool true) ∧ Below w.heap.size w w' := by
  go_enter Try.func34, Try.ntmps34
  go_wp2_with fail
  refine (within_yes sg 4 16 _ h.1 h.2).mono ?_
  rintro e w' ⟨rfl, rfl⟩
  go_wp2_with fail
  go_ret
  exact ⟨rfl, (Below.refl _ _).alloc (Nat.le_refl _) _⟩
theorem q1_no (sg sl rt : Int) (x : Nat) (w : World) (h : ¬ (4 ≤ sg ∧ sg ≤ 16)) :
    Calls Try.prog 34 #[.agg #[.int .i64 sg, .int .i64 sl, .float .f64 x, .int .i64 rt]] w fun e w' => e = .returned (.bool false) ∧ Below w.heap.size w w' := by
  go_enter Try.func34, Try.ntmps34
  go_wp2_with fail
  refine (within_no sg 4 16 _ (by omega)).mono ?_
  rintro e w' ⟨rfl, rfl⟩
  go_wp2_with fail
  go_ret
  exact ⟨rfl, (Below.refl _ _).alloc (Nat.le_refl _) _⟩
theorem q2_yes (sg sl rt : Int) (x : Nat) (w : World) (h : 1 ≤ sl ∧ sl ≤ 30) :
    Calls Try.prog 35 #[.agg #[.int .i64 sg, .int .i64 sl, .float .f64 x, .int .i64 rt]] w fun e w' => e = .returned (.bool true) ∧ Below w.heap.size w w' := by
  go_enter Try.func35, Try.ntmps35
  go_wp2_with fail
  refine (within_yes sl 1 30 _ h.1 h.2).mono ?_
  rintro e w' ⟨rfl, rfl⟩
  go_wp2_with fail
  go_ret
  exact ⟨rfl, (Below.refl _ _).alloc (Nat.le_refl _) _⟩
theorem q2_no (sg sl rt : Int) (x : Nat) (w : World) (h : ¬ (1 ≤ sl ∧ sl ≤ 30)) :
    Calls Try.prog 35 #[.agg #[.int .i64 sg, .int .i64 sl, .float .f64 x, .int .i64 rt]] w fun e w' => e = .returned (.bool false) ∧ Below w.heap.size w w' := by
  go_enter Try.func35, Try.ntmps35
  go_wp2_with fail
  refine (within_no sl 1 30 _ (by omega)).mono ?_
  rintro e w' ⟨rfl, rfl⟩
  go_wp2_with fail
  go_ret
  exact ⟨rfl, (Below.refl _ _).alloc (Nat.le_refl _) _⟩
theorem q3_yes (sg sl rt : Int) (x : Nat) (w : World) (h : 0 ≤ rt ∧ rt ≤ 8) :
    Calls Try.prog 36 #[.agg #[.int .i64 sg, .int .i64 sl, .float .f64 x, .int .i64 rt]] w fun e w' => e = .returned (.bool true) ∧ Below w.heap.size w w' := by
  go_enter Try.func36, Try.ntmps36
  go_wp2_with fail
  refine (within_yes rt 0 8 _ h.1 h.2).mono ?_
  rintro e w' ⟨rfl, rfl⟩
  go_wp2_with fail
  go_ret
  exact ⟨rfl, (Below.refl _ _).alloc (Nat.le_refl _) _⟩
theorem q3_no (sg sl rt : Int) (x : Nat) (w : World) (h : ¬ (0 ≤ rt ∧ rt ≤ 8)) :
    Calls Try.prog 36 #[.agg #[.int .i64 sg, .int .i64 sl, .float .f64 x, .int .i64 rt]] w fun e w' => e = .returned (.bool false) ∧ Below w.heap.size w w' := by
  go_enter Try.func36, Try.ntmps36
  go_wp2_with fail
  refine (within_no rt 0 8 _ (by omega)).mono ?_
  rintro e w' ⟨rfl, rfl⟩
  go_wp2_with fail
  go_ret
  exact ⟨rfl, (Below.refl _ _).alloc (Nat.le_refl _) _⟩
theorem q4_yes (sg sl rt : Int) (x : Nat) (w : World) (h : inS x) :
    Calls Try.prog 37 #[.agg #[.int .i64 sg, .int .i64 sl, .float .f64 x, .int .i64 rt]] w fun e w' => e = .returned (.bool true) ∧ Below w.heap.size w w' := by
  go_enter Try.func37, Try.ntmps37
  go_wp2_with fail
  refine (winf_yes x _ h).mono ?_
  rintro e w' ⟨rfl, rfl⟩
  go_wp2_with fail
  go_ret
  exact ⟨rfl, (Below.refl _ _).alloc (Nat.le_refl _) _⟩
theorem q4_no (sg sl rt : Int) (x : Nat) (w : World) (hx : x < 18446744073709551616) (h : ¬ (inS x)) :
    Calls Try.prog 37 #[.agg #[.int .i64 sg, .int .i64 sl, .float .f64 x, .int .i64 rt]] w fun e w' => e = .returned (.bool false) ∧ Below w.heap.size w w' := by
  go_enter Try.func37, Try.ntmps37
  go_wp2_with fail
  refine (winf_no x _ hx h).mono ?_
  rintro e w' ⟨rfl, rfl⟩
  go_wp2_with fail
  go_ret
  exact ⟨rfl, (Below.refl _ _).alloc (Nat.le_refl _) _⟩

/-- A conf lies at block B. -/
structure LiesC (W : World) (B : Nat) (sg sl : Int) (x : Nat) (rt : Int) : Prop where
  lt : B < W.heap.size
  c0 : W.cell? ⟨B, 0, none⟩ = some (.int .i64 sg)
  c1 : W.cell? ⟨B, 1, none⟩ = some (.int .i64 sl)
  c2 : W.cell? ⟨B, 2, none⟩ = some (.float .f64 x)
  c3 : W.cell? ⟨B, 3, none⟩ = some (.int .i64 rt)
theorem LiesC.later {W w : World} {B : Nat} {sg sl rt : Int} {x : Nat} (h : LiesC W B sg sl x rt) (hb : Below W.heap.size W w) : LiesC w B sg sl x rt :=
  have e := (bcell hb).1
  ⟨Nat.lt_of_lt_of_le h.lt hb.size, (e _ _ h.lt).trans h.c0, (e _ _ h.lt).trans h.c1, (e _ _ h.lt).trans h.c2, (e _ _ h.lt).trans h.c3⟩
/-- The four questions lie at block S. -/
structure LiesQ (W : World) (S : Nat) : Prop where
  lt : S < W.heap.size
  s0 : W.cell? ⟨S, 0, none⟩ = some (.func (.func 34) #[] #[])
  s1 : W.cell? ⟨S, 1, none⟩ = some (.func (.func 35) #[] #[])
  s2 : W.cell? ⟨S, 2, none⟩ = some (.func (.func 36) #[] #[])
  s3 : W.cell? ⟨S, 3, none⟩ = some (.func (.func 37) #[] #[])
theorem LiesQ.later {W w : World} {S : Nat} (h : LiesQ W S) (hb : Below W.heap.size W w) : LiesQ w S :=
  have e := (bcell hb).1
  ⟨Nat.lt_of_lt_of_le h.lt hb.size, (e _ _ h.lt).trans h.s0, (e _ _ h.lt).trans h.s1, (e _ _ h.lt).trans h.s2, (e _ _ h.lt).trans h.s3⟩

theorem clo1 (b : Bool) (sg sl rt : Int) (x B : Nat) (W w : World) (hW : Below W.heap.size W w) (L : LiesC W B sg sl x rt)
    (C : ∀ w, Calls Try.prog 34 #[.agg #[.int .i64 sg, .int .i64 sl, .float .f64 x, .int .i64 rt]] w fun e w' => e = .returned (.bool b) ∧ Below w.heap.size w w') :
    Calls Try.prog 24 #[.agg #[.func (.func 34) #[] #[]], .pointer (some ⟨B, 0, none⟩)] w fun e w' => e = .returned (.bool (!b)) ∧ Below W.heap.size W w' := by
  obtain ⟨hB, c0, c1, c2, c3⟩ := L.later hW
  have hz := hW.size
  have CC := Lib.hid C
  clear C
  go_enter Try.func24, Try.ntmps24
  go_wp2_with fail
  refine (CC.out _).mono ?_
  rintro e w1 ⟨rfl, hb⟩
  go_wp2_with fail
  go_ret
  exact ⟨rfl, hW.trans ((((Below.refl _ _).alloc (Nat.le_refl _) _).trans (hb.mono (by simp))).mono hz)⟩
theorem clo2 (b : Bool) (sg sl rt : Int) (x B : Nat) (W w : World) (hW : Below W.heap.size W w) (L : LiesC W B sg sl x rt)
    (C : ∀ w, Calls Try.prog 35 #[.agg #[.int .i64 sg, .int .i64 sl, .float .f64 x, .int .i64 rt]] w fun e w' => e = .returned (.bool b) ∧ Below w.heap.size w w') :
    Calls Try.prog 24 #[.agg #[.func (.func 35) #[] #[]], .pointer (some ⟨B, 0, none⟩)] w fun e w' => e = .returned (.bool (!b)) ∧ Below W.heap.size W w' := by
  obtain ⟨hB, c0, c1, c2, c3⟩ := L.later hW
  have hz := hW.size
  have CC := Lib.hid C
  clear C
  go_enter Try.func24, Try.ntmps24
  go_wp2_with fail
  refine (CC.out _).mono ?_
  rintro e w1 ⟨rfl, hb⟩
  go_wp2_with fail
  go_ret
  exact ⟨rfl, hW.trans ((((Below.refl _ _).alloc (Nat.le_refl _) _).trans (hb.mono (by simp))).mono hz)⟩
theorem clo3 (b : Bool) (sg sl rt : Int) (x B : Nat) (W w : World) (hW : Below W.heap.size W w) (L : LiesC W B sg sl x rt)
    (C : ∀ w, Calls Try.prog 36 #[.agg #[.int .i64 sg, .int .i64 sl, .float .f64 x, .int .i64 rt]] w fun e w' => e = .returned (.bool b) ∧ Below w.heap.size w w') :
    Calls Try.prog 24 #[.agg #[.func (.func 36) #[] #[]], .pointer (some ⟨B, 0, none⟩)] w fun e w' => e = .returned (.bool (!b)) ∧ Below W.heap.size W w' := by
  obtain ⟨hB, c0, c1, c2, c3⟩ := L.later hW
  have hz := hW.size
  have CC := Lib.hid C
  clear C
  go_enter Try.func24, Try.ntmps24
  go_wp2_with fail
  refine (CC.out _).mono ?_
  rintro e w1 ⟨rfl, hb⟩
  go_wp2_with fail
  go_ret
  exact ⟨rfl, hW.trans ((((Below.refl _ _).alloc (Nat.le_refl _) _).trans (hb.mono (by simp))).mono hz)⟩
theorem clo4 (b : Bool) (sg sl rt : Int) (x B : Nat) (W w : World) (hW : Below W.heap.size W w) (L : LiesC W B sg sl x rt)
    (C : ∀ w, Calls Try.prog 37 #[.agg #[.int .i64 sg, .int .i64 sl, .float .f64 x, .int .i64 rt]] w fun e w' => e = .returned (.bool b) ∧ Below w.heap.size w w') :
    Calls Try.prog 24 #[.agg #[.func (.func 37) #[] #[]], .pointer (some ⟨B, 0, none⟩)] w fun e w' => e = .returned (.bool (!b)) ∧ Below W.heap.size W w' := by
  obtain ⟨hB, c0, c1, c2, c3⟩ := L.later hW
  have hz := hW.size
  have CC := Lib.hid C
  clear C
  go_enter Try.func24, Try.ntmps24
  go_wp2_with fail
  refine (CC.out _).mono ?_
  rintro e w1 ⟨rfl, hb⟩
  go_wp2_with fail
  go_ret
  exact ⟨rfl, hW.trans ((((Below.refl _ _).alloc (Nat.le_refl _) _).trans (hb.mono (by simp))).mono hz)⟩
theorem idx_0 (sg sl rt : Int) (x S B : Nat) (W w : World) (hW : Below W.heap.size W w) (L : LiesC W B sg sl x rt) (M : LiesQ W S) (h0 : ¬ (4 ≤ sg ∧ sg ≤ 16)) :
    Calls Try.prog 33 #[.slice (some ⟨S, 0, none⟩) 4 4, .func (.func 24) #[] #[.pointer (some ⟨B, 0, none⟩)]] w fun e w' => e = .returned (.int .i64 0) ∧ Below W.heap.size W w' := by
  have C0 := Lib.hid (fun w hb => clo1 false sg sl rt x B W w hb L (fun w => q1_no sg sl rt x w h0))
  obtain ⟨hS, s0, s1, s2, s3⟩ := M.later hW
  go_enter Try.func33, Try.ntmps33
  go_wp2_with fail
  refine wp_loop_rounds 1 ?_
  rw [rounds_succ]
  go_wp2_with fail
  refine (C0.out _ hW).mono ?_
  rintro e w1 ⟨rfl, hb1⟩
  go_wp2_with fail
  go_ret
  exact ⟨rfl, hb1⟩
theorem con_0 (sg sl rt : Int) (x S B : Nat) (W w : World) (hW : Below W.heap.size W w) (L : LiesC W B sg sl x rt) (M : LiesQ W S) (h0 : ¬ (4 ≤ sg ∧ sg ≤ 16)) :
    Calls Try.prog 25 #[.slice (some ⟨S, 0, none⟩) 4 4, .func (.func 24) #[] #[.pointer (some ⟨B, 0, none⟩)]] w fun e w' => e = .returned (.bool true) ∧ Below W.heap.size W w' := by
  have C := Lib.hid (idx_0 sg sl rt x S B W w hW L M h0)
  go_enter Try.func25, Try.ntmps25
  go_wp2_with fail
  refine C.out.mono ?_
  rintro e w1 ⟨rfl, hb⟩
  go_wp2_with fail
  go_ret
  exact ⟨rfl, hb⟩
theorem idx_1 (sg sl rt : Int) (x S B : Nat) (W w : World) (hW : Below W.heap.size W w) (L : LiesC W B sg sl x rt) (M : LiesQ W S) (h0 : 4 ≤ sg ∧ sg ≤ 16) (h1 : ¬ (1 ≤ sl ∧ sl ≤ 30)) :
    Calls Try.prog 33 #[.slice (some ⟨S, 0, none⟩) 4 4, .func (.func 24) #[] #[.pointer (some ⟨B, 0, none⟩)]] w fun e w' => e = .returned (.int .i64 1) ∧ Below W.heap.size W w' := by
  have C0 := Lib.hid (fun w hb => clo1 true sg sl rt x B W w hb L (fun w => q1_yes sg sl rt x w h0))
  have C1 := Lib.hid (fun w hb => clo2 false sg sl rt x B W w hb L (fun w => q2_no sg sl rt x w h1))
  obtain ⟨hS, s0, s1, s2, s3⟩ := M.later hW
  go_enter Try.func33, Try.ntmps33
  go_wp2_with fail
  refine wp_loop_rounds 2 ?_
  rw [rounds_succ]
  go_wp2_with fail
  refine (C0.out _ hW).mono ?_
  rintro e w1 ⟨rfl, hb1⟩
  clear s0 s1 s2 s3 hS
  obtain ⟨hS, s0, s1, s2, s3⟩ := M.later hb1
  go_wp2_with fail
  rw [rounds_succ]
  go_wp2_with fail
  refine (C1.out _ hb1).mono ?_
  rintro e w2 ⟨rfl, hb2⟩
  go_wp2_with fail
  go_ret
  exact ⟨rfl, hb2⟩
theorem con_1 (sg sl rt : Int) (x S B : Nat) (W w : World) (hW : Below W.heap.size W w) (L : LiesC W B sg sl x rt) (M : LiesQ W S) (h0 : 4 ≤ sg ∧ sg ≤ 16) (h1 : ¬ (1 ≤ sl ∧ sl ≤ 30)) :
    Calls Try.prog 25 #[.slice (some ⟨S, 0, none⟩) 4 4, .func (.func 24) #[] #[.pointer (some ⟨B, 0, none⟩)]] w fun e w' => e = .returned (.bool true) ∧ Below W.heap.size W w' := by
  have C := Lib.hid (idx_1 sg sl rt x S B W w hW L M h0 h1)
  go_enter Try.func25, Try.ntmps25
  go_wp2_with fail
  refine C.out.mono ?_
  rintro e w1 ⟨rfl, hb⟩
  go_wp2_with fail
  go_ret
  exact ⟨rfl, hb⟩
theorem idx_2 (sg sl rt : Int) (x S B : Nat) (W w : World) (hW : Below W.heap.size W w) (L : LiesC W B sg sl x rt) (M : LiesQ W S) (h0 : 4 ≤ sg ∧ sg ≤ 16) (h1 : 1 ≤ sl ∧ sl ≤ 30) (h2 : ¬ (0 ≤ rt ∧ rt ≤ 8)) :
    Calls Try.prog 33 #[.slice (some ⟨S, 0, none⟩) 4 4, .func (.func 24) #[] #[.pointer (some ⟨B, 0, none⟩)]] w fun e w' => e = .returned (.int .i64 2) ∧ Below W.heap.size W w' := by
  have C0 := Lib.hid (fun w hb => clo1 true sg sl rt x B W w hb L (fun w => q1_yes sg sl rt x w h0))
  have C1 := Lib.hid (fun w hb => clo2 true sg sl rt x B W w hb L (fun w => q2_yes sg sl rt x w h1))
  have C2 := Lib.hid (fun w hb => clo3 false sg sl rt x B W w hb L (fun w => q3_no sg sl rt x w h2))
  obtain ⟨hS, s0, s1, s2, s3⟩ := M.later hW
  go_enter Try.func33, Try.ntmps33
  go_wp2_with fail
  refine wp_loop_rounds 3 ?_
  rw [rounds_succ]
  go_wp2_with fail
  refine (C0.out _ hW).mono ?_
  rintro e w1 ⟨rfl, hb1⟩
  clear s0 s1 s2 s3 hS
  obtain ⟨hS, s0, s1, s2, s3⟩ := M.later hb1
  go_wp2_with fail
  rw [rounds_succ]
  go_wp2_with fail
  refine (C1.out _ hb1).mono ?_
  rintro e w2 ⟨rfl, hb2⟩
  clear s0 s1 s2 s3 hS
  obtain ⟨hS, s0, s1, s2, s3⟩ := M.later hb2
  go_wp2_with fail
  rw [rounds_succ]
  go_wp2_with fail
  refine (C2.out _ hb2).mono ?_
  rintro e w3 ⟨rfl, hb3⟩
  go_wp2_with fail
  go_ret
  exact ⟨rfl, hb3⟩
theorem con_2 (sg sl rt : Int) (x S B : Nat) (W w : World) (hW : Below W.heap.size W w) (L : LiesC W B sg sl x rt) (M : LiesQ W S) (h0 : 4 ≤ sg ∧ sg ≤ 16) (h1 : 1 ≤ sl ∧ sl ≤ 30) (h2 : ¬ (0 ≤ rt ∧ rt ≤ 8)) :
    Calls Try.prog 25 #[.slice (some ⟨S, 0, none⟩) 4 4, .func (.func 24) #[] #[.pointer (some ⟨B, 0, none⟩)]] w fun e w' => e = .returned (.bool true) ∧ Below W.heap.size W w' := by
  have C := Lib.hid (idx_2 sg sl rt x S B W w hW L M h0 h1 h2)
  go_enter Try.func25, Try.ntmps25
  go_wp2_with fail
  refine C.out.mono ?_
  rintro e w1 ⟨rfl, hb⟩
  go_wp2_with fail
  go_ret
  exact ⟨rfl, hb⟩
theorem idx_3 (sg sl rt : Int) (x S B : Nat) (W w : World) (hW : Below W.heap.size W w) (L : LiesC W B sg sl x rt) (M : LiesQ W S) (hx : x < 18446744073709551616) (h0 : 4 ≤ sg ∧ sg ≤ 16) (h1 : 1 ≤ sl ∧ sl ≤ 30) (h2 : 0 ≤ rt ∧ rt ≤ 8) (h3 : ¬ (inS x)) :
    Calls Try.prog 33 #[.slice (some ⟨S, 0, none⟩) 4 4, .func (.func 24) #[] #[.pointer (some ⟨B, 0, none⟩)]] w fun e w' => e = .returned (.int .i64 3) ∧ Below W.heap.size W w' := by
  have C0 := Lib.hid (fun w hb => clo1 true sg sl rt x B W w hb L (fun w => q1_yes sg sl rt x w h0))
  have C1 := Lib.hid (fun w hb => clo2 true sg sl rt x B W w hb L (fun w => q2_yes sg sl rt x w h1))
  have C2 := Lib.hid (fun w hb => clo3 true sg sl rt x B W w hb L (fun w => q3_yes sg sl rt x w h2))
  have C3 := Lib.hid (fun w hb => clo4 false sg sl rt x B W w hb L (fun w => q4_no sg sl rt x w hx h3))
  obtain ⟨hS, s0, s1, s2, s3⟩ := M.later hW
  go_enter Try.func33, Try.ntmps33
  go_wp2_with fail
  refine wp_loop_rounds 4 ?_
  rw [rounds_succ]
  go_wp2_with fail
  refine (C0.out _ hW).mono ?_
  rintro e w1 ⟨rfl, hb1⟩
  clear s0 s1 s2 s3 hS
  obtain ⟨hS, s0, s1, s2, s3⟩ := M.later hb1
  go_wp2_with fail
  rw [rounds_succ]
  go_wp2_with fail
  refine (C1.out _ hb1).mono ?_
  rintro e w2 ⟨rfl, hb2⟩
  clear s0 s1 s2 s3 hS
  obtain ⟨hS, s0, s1, s2, s3⟩ := M.later hb2
  go_wp2_with fail
  rw [rounds_succ]
  go_wp2_with fail
  refine (C2.out _ hb2).mono ?_
  rintro e w3 ⟨rfl, hb3⟩
  clear s0 s1 s2 s3 hS
  obtain ⟨hS, s0, s1, s2, s3⟩ := M.later hb3
  go_wp2_with fail
  rw [rounds_succ]
  go_wp2_with fail
  refine (C3.out _ hb3).mono ?_
  rintro e w4 ⟨rfl, hb4⟩
  go_wp2_with fail
  go_ret
  exact ⟨rfl, hb4⟩
theorem con_3 (sg sl rt : Int) (x S B : Nat) (W w : World) (hW : Below W.heap.size W w) (L : LiesC W B sg sl x rt) (M : LiesQ W S) (hx : x < 18446744073709551616) (h0 : 4 ≤ sg ∧ sg ≤ 16) (h1 : 1 ≤ sl ∧ sl ≤ 30) (h2 : 0 ≤ rt ∧ rt ≤ 8) (h3 : ¬ (inS x)) :
    Calls Try.prog 25 #[.slice (some ⟨S, 0, none⟩) 4 4, .func (.func 24) #[] #[.pointer (some ⟨B, 0, none⟩)]] w fun e w' => e = .returned (.bool true) ∧ Below W.heap.size W w' := by
  have C := Lib.hid (idx_3 sg sl rt x S B W w hW L M hx h0 h1 h2 h3)
  go_enter Try.func25, Try.ntmps25
  go_wp2_with fail
  refine C.out.mono ?_
  rintro e w1 ⟨rfl, hb⟩
  go_wp2_with fail
  go_ret
  exact ⟨rfl, hb⟩
theorem idx_4 (sg sl rt : Int) (x S B : Nat) (W w : World) (hW : Below W.heap.size W w) (L : LiesC W B sg sl x rt) (M : LiesQ W S) (h0 : 4 ≤ sg ∧ sg ≤ 16) (h1 : 1 ≤ sl ∧ sl ≤ 30) (h2 : 0 ≤ rt ∧ rt ≤ 8) (h3 : inS x) :
    Calls Try.prog 33 #[.slice (some ⟨S, 0, none⟩) 4 4, .func (.func 24) #[] #[.pointer (some ⟨B, 0, none⟩)]] w fun e w' => e = .returned (.int .i64 (-1)) ∧ Below W.heap.size W w' := by
  have C0 := Lib.hid (fun w hb => clo1 true sg sl rt x B W w hb L (fun w => q1_yes sg sl rt x w h0))
  have C1 := Lib.hid (fun w hb => clo2 true sg sl rt x B W w hb L (fun w => q2_yes sg sl rt x w h1))
  have C2 := Lib.hid (fun w hb => clo3 true sg sl rt x B W w hb L (fun w => q3_yes sg sl rt x w h2))
  have C3 := Lib.hid (fun w hb => clo4 true sg sl rt x B W w hb L (fun w => q4_yes sg sl rt x w h3))
  obtain ⟨hS, s0, s1, s2, s3⟩ := M.later hW
  go_enter Try.func33, Try.ntmps33
  go_wp2_with fail
  refine wp_loop_rounds 5 ?_
  rw [rounds_succ]
  go_wp2_with fail
  refine (C0.out _ hW).mono ?_
  rintro e w1 ⟨rfl, hb1⟩
  clear s0 s1 s2 s3 hS
  obtain ⟨hS, s0, s1, s2, s3⟩ := M.later hb1
  go_wp2_with fail
  rw [rounds_succ]
  go_wp2_with fail
  refine (C1.out _ hb1).mono ?_
  rintro e w2 ⟨rfl, hb2⟩
  clear s0 s1 s2 s3 hS
  obtain ⟨hS, s0, s1, s2, s3⟩ := M.later hb2
  go_wp2_with fail
  rw [rounds_succ]
  go_wp2_with fail
  refine (C2.out _ hb2).mono ?_
  rintro e w3 ⟨rfl, hb3⟩
  clear s0 s1 s2 s3 hS
  obtain ⟨hS, s0, s1, s2, s3⟩ := M.later hb3
  go_wp2_with fail
  rw [rounds_succ]
  go_wp2_with fail
  refine (C3.out _ hb3).mono ?_
  rintro e w4 ⟨rfl, hb4⟩
  go_wp2_with fail
  rw [rounds_succ]
  go_wp2_with fail
  go_ret
  exact ⟨rfl, hb4⟩
theorem con_4 (sg sl rt : Int) (x S B : Nat) (W w : World) (hW : Below W.heap.size W w) (L : LiesC W B sg sl x rt) (M : LiesQ W S) (h0 : 4 ≤ sg ∧ sg ≤ 16) (h1 : 1 ≤ sl ∧ sl ≤ 30) (h2 : 0 ≤ rt ∧ rt ≤ 8) (h3 : inS x) :
    Calls Try.prog 25 #[.slice (some ⟨S, 0, none⟩) 4 4, .func (.func 24) #[] #[.pointer (some ⟨B, 0, none⟩)]] w fun e w' => e = .returned (.bool false) ∧ Below W.heap.size W w' := by
  have C := Lib.hid (idx_4 sg sl rt x S B W w hW L M h0 h1 h2 h3)
  go_enter Try.func25, Try.ntmps25
  go_wp2_with fail
  refine C.out.mono ?_
  rintro e w1 ⟨rfl, hb⟩
  go_wp2_with fail
  go_ret
  exact ⟨rfl, hb⟩

theorem questions_any (w : World) :
    Calls Try.prog 26 #[] w fun e w' => e = .returned (.slice (some ⟨w.heap.size, 0, none⟩) 4 4) ∧ w' = w.alloc (.cells #[.func (.func 34) #[] #[], .func (.func 35) #[] #[], .func (.func 36) #[] #[], .func (.func 37) #[] #[]] 39) := by
  go_enter Try.func26, Try.ntmps26
  go_wp2_with fail
  go_ret
  exact ⟨rfl, rfl⟩
end Go.Proofs.Ytnhkgialdnbohaa
