/- For every conf and every share the statement CheckQuota about check.Conf, Sectors, Quota and Bound returns true, and changes nothing. Conditions: none. -/
import Derived.Test.YtnhkgialdnbohaaCheckF
import Derived.Test.YtnhkgialdnbohaaClass
import Derived.Test.YtnhkgialdnbohaaFrame
import Derived.Test.YtnhkgialdnbohaaFloatArg
import Derived.Laws.Cover2
import Derived.Deep.QuietTactic
import Derived.BigQuiet
import Derived.StillTailTactics
import Derived.WalkSmall
import Derived.Deep.DeepCutAuto
import Derived.Deep.RegionWith
import Derived.Deep.LoopGhost
import Derived.ProofKit
import Derived.OpenShut
import Derived.ShutString
import Derived.SizedLaws
import Derived.Lib.SmallJoins
namespace Go.Proofs.Ytnhkgialdnbohaa.checkQuota
open Go.ChangeShapes Go.WideShapes Go.ChangeAt Go.RowKit Go.Lib
open Go.ChangeMaps (open_string shut_string)
open Go.Joins Go.Deep
set_option linter.unusedVariables false

theorem own : ownKnob Try.prog.godebug = none := by kernel_rfl

open Flt

/-- What stays while the calls go: old memory, and the cells of the three confs. -/
structure Inv (w : World) (sg sl : Int) (x y : Nat) (rt : Int) (W : World) : Prop where
  b : Below w.heap.size w W
  l : LiesC W w.heap.size sg sl x rt
  m : LiesC W (w.heap.size + 1) sg sl y rt
  a : LiesC W (w.heap.size + 1 + 1) sg sl 4607182418800017408 rt
theorem lies_drawn {W : World} {B : Nat} {sg sl rt : Int} {x : Nat} (h : LiesC W B sg sl x rt) : LiesC { W with drawn := W.drawn + 1 } B sg sl x rt := ⟨h.lt, h.c0, h.c1, h.c2, h.c3⟩
theorem Inv.drawn {w W : World} {sg sl rt : Int} {x y : Nat} (h : Inv w sg sl x y rt W) : Inv w sg sl x y rt { W with drawn := W.drawn + 1 } :=
  ⟨⟨h.b.os, h.b.tape, h.b.output, h.b.size, h.b.block⟩, lies_drawn h.l, lies_drawn h.m, lies_drawn h.a⟩
theorem Inv.later {w W W' : World} {sg sl rt : Int} {x y : Nat} (h : Inv w sg sl x y rt W) (hb : Below W.heap.size W W') : Inv w sg sl x y rt W' :=
  ⟨h.b.trans (hb.mono h.b.size), h.l.later hb, h.m.later hb, h.a.later hb⟩
theorem inv_ge {P : Program} {w W : World} {sg sl rt : Int} {x y : Nat} {f : FuncId} {args : Array Value} {v : Value} (hi : Inv w sg sl x y rt W) (h : Calls P f args W fun e w' => e = .returned v ∧ Below W.heap.size W w') :
    Calls P f args W fun e w' => e = .returned v ∧ Inv w sg sl x y rt w' :=
  h.mono fun _ _ ⟨he, hb⟩ => ⟨he, hi.later hb⟩
theorem lay_three (w : World) (sg sl rt : Int) (x y : Nat) : Inv w sg sl x y rt (((w.alloc (.cells #[.int .i64 sg, .int .i64 sl, .float .f64 x, .int .i64 rt] 24)).alloc (.cells #[.int .i64 sg, .int .i64 sl, .float .f64 y, .int .i64 rt] 24)).alloc (.cells #[.int .i64 sg, .int .i64 sl, .float .f64 4607182418800017408, .int .i64 rt] 24)) := by
  refine ⟨(((Below.refl _ _).alloc (Nat.le_refl _) _).alloc (by simp) _).alloc (by simp; omega) _,
    ((lay1 sg sl rt x w).later ((Below.refl _ _).alloc (Nat.le_refl _) _)).later ((Below.refl _ _).alloc (Nat.le_refl _) _), ?_, ?_⟩
  · have := (lay1 sg sl rt y (w.alloc (.cells #[.int .i64 sg, .int .i64 sl, .float .f64 x, .int .i64 rt] 24))).later ((Below.refl _ _).alloc (Nat.le_refl _) (.cells #[.int .i64 sg, .int .i64 sl, .float .f64 4607182418800017408, .int .i64 rt] 24))
    simpa using this
  · have := lay1 sg sl rt 4607182418800017408 ((w.alloc (.cells #[.int .i64 sg, .int .i64 sl, .float .f64 x, .int .i64 rt] 24)).alloc (.cells #[.int .i64 sg, .int .i64 sl, .float .f64 y, .int .i64 rt] 24))
    simpa using this

/-- What the numbers of a conf that may be tell. -/
theorem sc_is (sg sl rt n : Int) (x : Nat) (h : MayC sg sl x rt) (hn : sg * sl = n) : scC sg sl x rt = n + sg + 2 := by
  unfold scC
  rw [if_pos h, Int.mul_add, hn]
  omega
theorem room (sg sl n : Int) (hn : sg * sl = n) : sl * (sg - 2) = n - 2 * sl := by
  rw [Int.mul_sub, Int.mul_comm sl sg, hn]
  omega
theorem bo_ge (sg sl rt n : Int) (x : Nat) (h : MayC sg sl x rt) (hn : sg * sl = n) : 3 * n - 3 * sl ≤ boC sg sl x rt := by
  have e : (sg - 1) * (sl + 2) = n + 2 * sg - sl - 2 := by
    rw [Int.sub_mul, Int.mul_add, hn]
    omega
  unfold boC
  rw [if_pos h, e]
  obtain ⟨⟨h1, _⟩, _⟩ := h
  omega
theorem n_bd (sg sl rt n : Int) (x : Nat) (h : MayC sg sl x rt) (hn : sg * sl = n) : 0 ≤ n ∧ n ≤ 480 ∧ 0 ≤ n - 2 * sl ∧ n - 2 * sl ≤ 420 := by
  have hr := room sg sl n hn
  obtain ⟨⟨h1, h2⟩, ⟨h3, h4⟩, _⟩ := h
  have p := prod_bd sg sl 16 30 (by omega) (by omega) (by omega) (by omega)
  have q := prod_bd sl (sg - 2) 30 14 (by omega) (by omega) (by omega) (by omega)
  rw [hn] at p
  rw [hr] at q
  omega
theorem qu_bd (sg sl rt n : Int) (x : Nat) (h : MayC sg sl x rt) (hn : sg * sl = n) : 0 ≤ quC sg sl x rt ∧ quC sg sl x rt ≤ n - 2 * sl := by
  have hb := n_bd sg sl rt n x h hn
  unfold quC
  rw [if_pos h, room sg sl n hn]
  obtain ⟨f, e, hf, hv, h1, h2, h3⟩ := shr_le x (n - 2 * sl).toNat (by have := h.2.2.2; unfold inS at this; omega) (by omega)
  omega
theorem qu_all (sg sl rt n : Int) (x : Nat) (h : MayC sg sl x rt) (hn : sg * sl = n) : quC sg sl 4607182418800017408 rt = n - 2 * sl := by
  have hb := n_bd sg sl rt n x h hn
  have h' : MayC sg sl 4607182418800017408 rt := ⟨h.1, h.2.1, h.2.2.1, by unfold inS; omega⟩
  unfold quC
  rw [if_pos h', room sg sl n hn, shr_one _ (by omega)]
  omega
theorem qu_mono (sg sl rt : Int) (x y : Nat) (h : MayC sg sl x rt) (hy : inS y) (hk : key x ≤ key y) : quC sg sl x rt ≤ quC sg sl y rt := by
  have h' : MayC sg sl y rt := ⟨h.1, h.2.1, h.2.2.1, hy⟩
  have hx := h.2.2.2
  unfold inS at hx hy
  have k1 := key_spec x
  have k2 := key_spec y
  unfold quC
  rw [if_pos h, if_pos h']
  have := fl_mono (shr_mono x y (sl * (sg - 2)).toNat (by omega))
  omega
theorem wrap_in {a : Int} (h0 : -1000000 ≤ a) (h1 : a ≤ 1000000) : IntKind.i64.wrap a = a := IntWalk.i64_in _ (by omega)

set_option maxRecDepth 100000 in
set_option maxHeartbeats 4000000 in
theorem none_may (sg sl : Int) (x : Nat) (rt : Int) (y : Nat) (hx : x < 18446744073709551616) (N : ¬ MayC sg sl x rt) (w : World) :
    Calls Try.prog 5 #[.agg #[.int .i64 sg, .int .i64 sl, .float .f64 x, .int .i64 rt], .float .f64 y] w fun e w' => e = .returned (.bool true) ∧ Below w.heap.size w w' := by
  have hi0 := lay_three w sg sl rt x y
  have hsf := fun (a : Addr) (x : Nat) (w : World) => run_store Try.prog w a (.float .f64 x) .plain rfl
  have C1 := Lib.hid (fun w => conf_no sg sl rt x w hx N)
  have C2 := Lib.hid (fun w => sectors_is sg sl rt x 0 w hx (by unfold scC; rw [if_neg N]))
  have C3 := Lib.hid (fun w => quota_is sg sl rt x 0 w hx (by unfold quC; rw [if_neg N]))
  have C4 := Lib.hid (fun w => bound_is sg sl rt x 0 w hx (by unfold boC; rw [if_neg N]))
  clear N
  go_enter Try.func5, Try.ntmps5
  go_wp2_with fail
  generalize (((w.alloc (.cells #[.int .i64 sg, .int .i64 sl, .float .f64 x, .int .i64 rt] 24)).alloc (.cells #[.int .i64 sg, .int .i64 sl, .float .f64 y, .int .i64 rt] 24)).alloc (.cells #[.int .i64 sg, .int .i64 sl, .float .f64 4607182418800017408, .int .i64 rt] 24)) = W at hi0 ⊢
  clear hsf
  (with_reducible refine (C1.out _).mono ?_)
  rintro e w1 ⟨rfl, hb1⟩
  have i1 := hi0.later hb1
  obtain ⟨l, c0, c1, c2, c3⟩ := i1.l
  go_wp2_with fail
  clear l c0 c1 c2 c3
  (with_reducible refine (C2.out _).mono ?_)
  rintro e w2 ⟨rfl, hb2⟩
  have i2 := i1.later hb2
  obtain ⟨l, c0, c1, c2, c3⟩ := i2.l
  go_wp2_with fail
  clear l c0 c1 c2 c3
  (with_reducible refine (C3.out _).mono ?_)
  rintro e w3 ⟨rfl, hb3⟩
  have i3 := i2.later hb3
  obtain ⟨l, c0, c1, c2, c3⟩ := i3.l
  go_wp2_with fail
  clear l c0 c1 c2 c3
  (with_reducible refine (C4.out _).mono ?_)
  rintro e w4 ⟨rfl, hb4⟩
  have i4 := i3.later hb4
  go_wp2_with fail
  refine (fixed_any _).mono ?_
  rintro e w5 ⟨rfl, hb5⟩
  have i5 := i4.later hb5
  go_wp2_with fail
  go_ret
  exact ⟨rfl, i5.b⟩

set_option maxRecDepth 100000 in
set_option maxHeartbeats 8000000 in
theorem may_no (sg sl : Int) (x : Nat) (rt : Int) (y : Nat) (n : Int) (hx : x < 18446744073709551616) (hy : y < 18446744073709551616) (M : MayC sg sl x rt) (hn : Hid (sg * sl = n)) (hs : ¬ inS y) (w : World) :
    Calls Try.prog 5 #[.agg #[.int .i64 sg, .int .i64 sl, .float .f64 x, .int .i64 rt], .float .f64 y] w fun e w' => e = .returned (.bool true) ∧ Below w.heap.size w w' := by
  have hi0 := lay_three w sg sl rt x y
  have hsf := fun (a : Addr) (x : Nat) (w : World) => run_store Try.prog w a (.float .f64 x) .plain rfl
  have C1 := Lib.hid (fun w => conf_yes sg sl rt x w M)
  have C5 := Lib.hid (fun w => R3.kind_any y w hy)
  obtain ⟨n0, n1, n2, n3⟩ := n_bd sg sl rt n x M hn.out
  obtain ⟨A, e1⟩ : ∃ A, IntKind.i64.wrap (n + sg) = A := ⟨_, rfl⟩
  obtain ⟨B, e2⟩ : ∃ B, IntKind.i64.wrap (A + 2) = B := ⟨_, rfl⟩
  obtain ⟨E, e3⟩ : ∃ E, IntKind.i64.wrap (2 * sl) = E := ⟨_, rfl⟩
  obtain ⟨G, e4⟩ : ∃ G, IntKind.i64.wrap (n - E) = G := ⟨_, rfl⟩
  obtain ⟨P, e5⟩ : ∃ P, IntKind.i64.wrap (3 * n) = P := ⟨_, rfl⟩
  obtain ⟨R, e6⟩ : ∃ R, IntKind.i64.wrap (3 * sl) = R := ⟨_, rfl⟩
  obtain ⟨Z, e7⟩ : ∃ Z, IntKind.i64.wrap (P - R) = Z := ⟨_, rfl⟩
  have MB := M
  obtain ⟨⟨s0, s1⟩, ⟨l0, l1⟩, ⟨r0, r1⟩, hS⟩ := MB
  have qA : A = n + sg := by rw [← e1]; exact wrap_in (by omega) (by omega)
  have qB : B = n + sg + 2 := by rw [← e2, qA]; exact wrap_in (by omega) (by omega)
  have qE : E = 2 * sl := by rw [← e3]; exact wrap_in (by omega) (by omega)
  have qG : G = n - 2 * sl := by rw [← e4, qE]; exact wrap_in (by omega) (by omega)
  have qP : P = 3 * n := by rw [← e5]; exact wrap_in (by omega) (by omega)
  have qR : R = 3 * sl := by rw [← e6]; exact wrap_in (by omega) (by omega)
  have qZ : Z = 3 * n - 3 * sl := by rw [← e7, qP, qR]; exact wrap_in (by omega) (by omega)
  obtain ⟨q, Q⟩ : ∃ q, Hid (quC sg sl x rt = q) := ⟨_, rfl⟩
  obtain ⟨bo, O⟩ : ∃ b, Hid (boC sg sl x rt = b) := ⟨_, rfl⟩
  have hq := qu_bd sg sl rt n x M hn.out
  have ho := bo_ge sg sl rt n x M hn.out
  rw [Q.out] at hq
  rw [O.out] at ho
  have HS := Lib.hid (show scC sg sl x rt = B by rw [qB]; exact sc_is sg sl rt n x M hn.out)
  have HA := Lib.hid (show quC sg sl 4607182418800017408 rt = G by rw [qG]; exact qu_all sg sl rt n x M hn.out)
  have t1 : decide (q < 0) = false := decide_eq_false (by omega)
  have t2 : decide (G < q) = false := decide_eq_false (by omega)
  have t3 : decide (Z ≤ bo) = true := decide_eq_true (by omega)
  have h1 : 0 ≤ sg * sl := by rw [hn.out]; exact n0
  have h2 : sg * sl ≤ 480 := by rw [hn.out]; exact n1
  obtain ⟨qy, QY⟩ : ∃ q, Hid (quC sg sl y rt = q) := ⟨_, rfl⟩
  have kc := kd_cases y hy
  have ky := key_spec y
  have C6 := Lib.hid (fun w => conf_no sg sl rt y w hy (fun h => hs h.2.2.2))
  have hk : kd y < 3 ∨ kd y = 6 ∨ (kd y = 5 ∧ FloatKind.f64.format.order y 4607182418800017408 = some .gt) := by
    unfold inS at hs
    by_cases g : kd y = 5
    · exact .inr (.inr ⟨g, ogt y _ hy (by omega) (by omega) (by omega) (by rw [key_1]; omega)⟩)
    · omega
  clear kc ky hs
  have E1 := Lib.hid e1
  have E2 := Lib.hid e2
  have E3 := Lib.hid e3
  have E4 := Lib.hid e4
  have E5 := Lib.hid e5
  have E6 := Lib.hid e6
  have E7 := Lib.hid e7
  have T1 := Lib.hid t1
  have T2 := Lib.hid t2
  have T3 := Lib.hid t3
  clear e1 e2 e3 e4 e5 e6 e7 t1 t2 t3 qA qB qE qG qP qR qZ n0 n1 n2 n3 hq ho M hS s0 s1 l0 l1 r0 r1
  go_enter Try.func5, Try.ntmps5
  go_wp2_with fail
  generalize (((w.alloc (.cells #[.int .i64 sg, .int .i64 sl, .float .f64 x, .int .i64 rt] 24)).alloc (.cells #[.int .i64 sg, .int .i64 sl, .float .f64 y, .int .i64 rt] 24)).alloc (.cells #[.int .i64 sg, .int .i64 sl, .float .f64 4607182418800017408, .int .i64 rt] 24)) = W at hi0 ⊢
  clear hsf
  (with_reducible refine (C1.out _).mono ?_)
  rintro e w1 ⟨rfl, hb1⟩
  have i1 := hi0.later hb1
  obtain ⟨l, c0, c1, c2, c3⟩ := i1.l
  go_upto_region 8 with fail
  clear l c0 c1 c2 c3 h1 h2
  rw [hn.out]
  go_cut [71] (fun s71 wx => s71 = .bool false ∧ Inv w sg sl x y rt wx)
  case first =>
    have e1 := E1.out
    have e2 := E2.out
    have e3 := E3.out
    have e4 := E4.out
    have t1 := T1.out
    have t2 := T2.out
    have hne : Nonempty (In (Inv w sg sl x y rt)) := ⟨⟨_, i1⟩⟩
    have Fl0 : ∀ i : In (Inv w sg sl x y rt), i.W.cell? ⟨w.heap.size, 0, none⟩ = some (.int .i64 sg) := fun i => i.h.l.c0
    have Fl1 : ∀ i : In (Inv w sg sl x y rt), i.W.cell? ⟨w.heap.size, 1, none⟩ = some (.int .i64 sl) := fun i => i.h.l.c1
    have Fl2 : ∀ i : In (Inv w sg sl x y rt), i.W.cell? ⟨w.heap.size, 2, none⟩ = some (.float .f64 x) := fun i => i.h.l.c2
    have Fl3 : ∀ i : In (Inv w sg sl x y rt), i.W.cell? ⟨w.heap.size, 3, none⟩ = some (.int .i64 rt) := fun i => i.h.l.c3
    have Fm0 : ∀ i : In (Inv w sg sl x y rt), i.W.cell? ⟨w.heap.size + 1, 0, none⟩ = some (.int .i64 sg) := fun i => i.h.m.c0
    have Fm1 : ∀ i : In (Inv w sg sl x y rt), i.W.cell? ⟨w.heap.size + 1, 1, none⟩ = some (.int .i64 sl) := fun i => i.h.m.c1
    have Fm2 : ∀ i : In (Inv w sg sl x y rt), i.W.cell? ⟨w.heap.size + 1, 2, none⟩ = some (.float .f64 y) := fun i => i.h.m.c2
    have Fm3 : ∀ i : In (Inv w sg sl x y rt), i.W.cell? ⟨w.heap.size + 1, 3, none⟩ = some (.int .i64 rt) := fun i => i.h.m.c3
    have Fa0 : ∀ i : In (Inv w sg sl x y rt), i.W.cell? ⟨w.heap.size + 1 + 1, 0, none⟩ = some (.int .i64 sg) := fun i => i.h.a.c0
    have Fa1 : ∀ i : In (Inv w sg sl x y rt), i.W.cell? ⟨w.heap.size + 1 + 1, 1, none⟩ = some (.int .i64 sl) := fun i => i.h.a.c1
    have Fa2 : ∀ i : In (Inv w sg sl x y rt), i.W.cell? ⟨w.heap.size + 1 + 1, 2, none⟩ = some (.float .f64 4607182418800017408) := fun i => i.h.a.c2
    have Fa3 : ∀ i : In (Inv w sg sl x y rt), i.W.cell? ⟨w.heap.size + 1 + 1, 3, none⟩ = some (.int .i64 rt) := fun i => i.h.a.c3
    refine region_class (Inv w sg sl x y rt) (by kernel_rfl) (by kernel_rfl) i1.drawn ?_
    repeat (go_big_quiet_step (first
      | (go_at_call 14; exact class_call _ (fun hi => inv_ge hi (sectors_is sg sl rt x B _ hx HS.out)))
      | (go_at_call 16; with_reducible exact class_call _ (fun hi => inv_ge hi (quota_is sg sl rt x q _ hx Q.out)))
      | (go_at_call 16; with_reducible exact class_call _ (fun hi => inv_ge hi (quota_is sg sl rt 4607182418800017408 G _ (by omega) HA.out)))))
    refine wpQuiet_nil ?_
    rintro _ ⟨i, rfl⟩
    go_wp2_with fail
    go_meet
    exact ⟨rfl, i.h⟩
  case rest =>
  obtain ⟨rfl, i2⟩ := hcut
  go_wp2_with fail
  (with_reducible refine (C5.out _).mono ?_)
  rintro e w3 ⟨rfl, rfl⟩
  go_upto_region 11 with fail
  go_cut [8, 9] (fun s8 s9 wx => s9 = .bool false ∧ Inv w sg sl x y rt wx)
  case first =>
    rcases hk with hk | hk | ⟨hk, o⟩
    · have k3 : ¬ 3 ≤ kd y := by omega
      clear hk
      generalize kd y = K at *
      go_wp2_with fail
      go_meet
      exact ⟨rfl, i2⟩
    · rw [hk]
      clear hk
      go_wp2_with fail
      go_meet
      exact ⟨rfl, i2⟩
    · rw [hk]
      clear hk
      go_wp2_with fail
      go_meet
      exact ⟨rfl, i2⟩
  case rest =>
  obtain ⟨rfl, i3⟩ := hcut
  clear i2
  obtain ⟨l, c0, c1, c2, c3⟩ := i3.m
  go_wp2_with fail
  clear l c0 c1 c2 c3
  (with_reducible refine (C6.out _).mono ?_)
  rintro e w4 ⟨rfl, hb4⟩
  have i4 := i3.later hb4
  go_upto_region 14 with fail
  clear i3 hb4
  have e5 := E5.out
  have e6 := E6.out
  have e7 := E7.out
  have t3 := T3.out
  clear hk
  have hne : Nonempty (In (Inv w sg sl x y rt)) := ⟨⟨_, i4⟩⟩
  have Fl0 : ∀ i : In (Inv w sg sl x y rt), i.W.cell? ⟨w.heap.size, 0, none⟩ = some (.int .i64 sg) := fun i => i.h.l.c0
  have Fl1 : ∀ i : In (Inv w sg sl x y rt), i.W.cell? ⟨w.heap.size, 1, none⟩ = some (.int .i64 sl) := fun i => i.h.l.c1
  have Fl2 : ∀ i : In (Inv w sg sl x y rt), i.W.cell? ⟨w.heap.size, 2, none⟩ = some (.float .f64 x) := fun i => i.h.l.c2
  have Fl3 : ∀ i : In (Inv w sg sl x y rt), i.W.cell? ⟨w.heap.size, 3, none⟩ = some (.int .i64 rt) := fun i => i.h.l.c3
  have Fm0 : ∀ i : In (Inv w sg sl x y rt), i.W.cell? ⟨w.heap.size + 1, 0, none⟩ = some (.int .i64 sg) := fun i => i.h.m.c0
  have Fm1 : ∀ i : In (Inv w sg sl x y rt), i.W.cell? ⟨w.heap.size + 1, 1, none⟩ = some (.int .i64 sl) := fun i => i.h.m.c1
  have Fm2 : ∀ i : In (Inv w sg sl x y rt), i.W.cell? ⟨w.heap.size + 1, 2, none⟩ = some (.float .f64 y) := fun i => i.h.m.c2
  have Fm3 : ∀ i : In (Inv w sg sl x y rt), i.W.cell? ⟨w.heap.size + 1, 3, none⟩ = some (.int .i64 rt) := fun i => i.h.m.c3
  have Fa0 : ∀ i : In (Inv w sg sl x y rt), i.W.cell? ⟨w.heap.size + 1 + 1, 0, none⟩ = some (.int .i64 sg) := fun i => i.h.a.c0
  have Fa1 : ∀ i : In (Inv w sg sl x y rt), i.W.cell? ⟨w.heap.size + 1 + 1, 1, none⟩ = some (.int .i64 sl) := fun i => i.h.a.c1
  have Fa2 : ∀ i : In (Inv w sg sl x y rt), i.W.cell? ⟨w.heap.size + 1 + 1, 2, none⟩ = some (.float .f64 4607182418800017408) := fun i => i.h.a.c2
  have Fa3 : ∀ i : In (Inv w sg sl x y rt), i.W.cell? ⟨w.heap.size + 1 + 1, 3, none⟩ = some (.int .i64 rt) := fun i => i.h.a.c3
  refine region_class (Inv w sg sl x y rt) (by kernel_rfl) (by kernel_rfl) i4.drawn ?_
  repeat (go_big_quiet_step (first
    | (go_at_call 18; exact class_call _ (fun hi => inv_ge hi (bound_is sg sl rt x bo _ hx O.out)))
    | (go_at_call 16; with_reducible exact class_call _ (fun hi => inv_ge hi (quota_is sg sl rt x q _ hx Q.out)))
    | (go_at_call 16; with_reducible exact class_call _ (fun hi => inv_ge hi (quota_is sg sl rt y qy _ hy QY.out)))
    | (go_at_call 20; exact class_call _ (fun hi => inv_ge hi (fixed_any _)))))
  refine wpQuiet_nil ?_
  rintro _ ⟨i, rfl⟩
  go_wp2_with fail
  go_ret
  exact ⟨rfl, i.h.b⟩

set_option maxRecDepth 100000 in
set_option maxHeartbeats 8000000 in
theorem may_lt (sg sl : Int) (x : Nat) (rt : Int) (y : Nat) (n : Int) (hx : x < 18446744073709551616) (hy : y < 18446744073709551616) (M : MayC sg sl x rt) (hn : Hid (sg * sl = n)) (hs : inS y) (o : Hid (FloatKind.f64.format.order y x = some .lt)) (w : World) :
    Calls Try.prog 5 #[.agg #[.int .i64 sg, .int .i64 sl, .float .f64 x, .int .i64 rt], .float .f64 y] w fun e w' => e = .returned (.bool true) ∧ Below w.heap.size w w' := by
  have hi0 := lay_three w sg sl rt x y
  have hsf := fun (a : Addr) (x : Nat) (w : World) => run_store Try.prog w a (.float .f64 x) .plain rfl
  have C1 := Lib.hid (fun w => conf_yes sg sl rt x w M)
  have C5 := Lib.hid (fun w => R3.kind_any y w hy)
  obtain ⟨n0, n1, n2, n3⟩ := n_bd sg sl rt n x M hn.out
  obtain ⟨A, e1⟩ : ∃ A, IntKind.i64.wrap (n + sg) = A := ⟨_, rfl⟩
  obtain ⟨B, e2⟩ : ∃ B, IntKind.i64.wrap (A + 2) = B := ⟨_, rfl⟩
  obtain ⟨E, e3⟩ : ∃ E, IntKind.i64.wrap (2 * sl) = E := ⟨_, rfl⟩
  obtain ⟨G, e4⟩ : ∃ G, IntKind.i64.wrap (n - E) = G := ⟨_, rfl⟩
  obtain ⟨P, e5⟩ : ∃ P, IntKind.i64.wrap (3 * n) = P := ⟨_, rfl⟩
  obtain ⟨R, e6⟩ : ∃ R, IntKind.i64.wrap (3 * sl) = R := ⟨_, rfl⟩
  obtain ⟨Z, e7⟩ : ∃ Z, IntKind.i64.wrap (P - R) = Z := ⟨_, rfl⟩
  have MB := M
  obtain ⟨⟨s0, s1⟩, ⟨l0, l1⟩, ⟨r0, r1⟩, hS⟩ := MB
  have qA : A = n + sg := by rw [← e1]; exact wrap_in (by omega) (by omega)
  have qB : B = n + sg + 2 := by rw [← e2, qA]; exact wrap_in (by omega) (by omega)
  have qE : E = 2 * sl := by rw [← e3]; exact wrap_in (by omega) (by omega)
  have qG : G = n - 2 * sl := by rw [← e4, qE]; exact wrap_in (by omega) (by omega)
  have qP : P = 3 * n := by rw [← e5]; exact wrap_in (by omega) (by omega)
  have qR : R = 3 * sl := by rw [← e6]; exact wrap_in (by omega) (by omega)
  have qZ : Z = 3 * n - 3 * sl := by rw [← e7, qP, qR]; exact wrap_in (by omega) (by omega)
  obtain ⟨q, Q⟩ : ∃ q, Hid (quC sg sl x rt = q) := ⟨_, rfl⟩
  obtain ⟨bo, O⟩ : ∃ b, Hid (boC sg sl x rt = b) := ⟨_, rfl⟩
  have hq := qu_bd sg sl rt n x M hn.out
  have ho := bo_ge sg sl rt n x M hn.out
  rw [Q.out] at hq
  rw [O.out] at ho
  have HS := Lib.hid (show scC sg sl x rt = B by rw [qB]; exact sc_is sg sl rt n x M hn.out)
  have HA := Lib.hid (show quC sg sl 4607182418800017408 rt = G by rw [qG]; exact qu_all sg sl rt n x M hn.out)
  have t1 : decide (q < 0) = false := decide_eq_false (by omega)
  have t2 : decide (G < q) = false := decide_eq_false (by omega)
  have t3 : decide (Z ≤ bo) = true := decide_eq_true (by omega)
  have h1 : 0 ≤ sg * sl := by rw [hn.out]; exact n0
  have h2 : sg * sl ≤ 480 := by rw [hn.out]; exact n1
  obtain ⟨qy, QY⟩ : ∃ q, Hid (quC sg sl y rt = q) := ⟨_, rfl⟩
  have kc := kd_cases y hy
  have ky := key_spec y
  have C6 := Lib.hid (fun w => conf_yes sg sl rt y w ⟨M.1, M.2.1, M.2.2.1, hs⟩)
  have hk : kd y = 3 ∨ kd y = 4 ∨ kd y = 5 := by unfold inS at hs; omega
  have o2 : (FloatKind.f64.format.order y 4607182418800017408 == some .lt || FloatKind.f64.format.order y 4607182418800017408 == some .eq) = true := by
    unfold inS at hs
    by_cases g : key y = 4607182418800017408
    · rw [oeq y _ hy (by omega) (by omega) (by omega) (by rw [key_1]; omega)]; rfl
    · rw [olt y _ hy (by omega) (by omega) (by omega) (by rw [key_1]; omega)]; rfl
  have O2 := Lib.hid o2
  clear o2 kc ky
  clear hs
  have E1 := Lib.hid e1
  have E2 := Lib.hid e2
  have E3 := Lib.hid e3
  have E4 := Lib.hid e4
  have E5 := Lib.hid e5
  have E6 := Lib.hid e6
  have E7 := Lib.hid e7
  have T1 := Lib.hid t1
  have T2 := Lib.hid t2
  have T3 := Lib.hid t3
  clear e1 e2 e3 e4 e5 e6 e7 t1 t2 t3 qA qB qE qG qP qR qZ n0 n1 n2 n3 hq ho M hS s0 s1 l0 l1 r0 r1
  go_enter Try.func5, Try.ntmps5
  go_wp2_with fail
  generalize (((w.alloc (.cells #[.int .i64 sg, .int .i64 sl, .float .f64 x, .int .i64 rt] 24)).alloc (.cells #[.int .i64 sg, .int .i64 sl, .float .f64 y, .int .i64 rt] 24)).alloc (.cells #[.int .i64 sg, .int .i64 sl, .float .f64 4607182418800017408, .int .i64 rt] 24)) = W at hi0 ⊢
  clear hsf
  (with_reducible refine (C1.out _).mono ?_)
  rintro e w1 ⟨rfl, hb1⟩
  have i1 := hi0.later hb1
  obtain ⟨l, c0, c1, c2, c3⟩ := i1.l
  go_upto_region 8 with fail
  clear l c0 c1 c2 c3 h1 h2
  rw [hn.out]
  go_cut [71] (fun s71 wx => s71 = .bool false ∧ Inv w sg sl x y rt wx)
  case first =>
    have e1 := E1.out
    have e2 := E2.out
    have e3 := E3.out
    have e4 := E4.out
    have t1 := T1.out
    have t2 := T2.out
    have hne : Nonempty (In (Inv w sg sl x y rt)) := ⟨⟨_, i1⟩⟩
    have Fl0 : ∀ i : In (Inv w sg sl x y rt), i.W.cell? ⟨w.heap.size, 0, none⟩ = some (.int .i64 sg) := fun i => i.h.l.c0
    have Fl1 : ∀ i : In (Inv w sg sl x y rt), i.W.cell? ⟨w.heap.size, 1, none⟩ = some (.int .i64 sl) := fun i => i.h.l.c1
    have Fl2 : ∀ i : In (Inv w sg sl x y rt), i.W.cell? ⟨w.heap.size, 2, none⟩ = some (.float .f64 x) := fun i => i.h.l.c2
    have Fl3 : ∀ i : In (Inv w sg sl x y rt), i.W.cell? ⟨w.heap.size, 3, none⟩ = some (.int .i64 rt) := fun i => i.h.l.c3
    have Fm0 : ∀ i : In (Inv w sg sl x y rt), i.W.cell? ⟨w.heap.size + 1, 0, none⟩ = some (.int .i64 sg) := fun i => i.h.m.c0
    have Fm1 : ∀ i : In (Inv w sg sl x y rt), i.W.cell? ⟨w.heap.size + 1, 1, none⟩ = some (.int .i64 sl) := fun i => i.h.m.c1
    have Fm2 : ∀ i : In (Inv w sg sl x y rt), i.W.cell? ⟨w.heap.size + 1, 2, none⟩ = some (.float .f64 y) := fun i => i.h.m.c2
    have Fm3 : ∀ i : In (Inv w sg sl x y rt), i.W.cell? ⟨w.heap.size + 1, 3, none⟩ = some (.int .i64 rt) := fun i => i.h.m.c3
    have Fa0 : ∀ i : In (Inv w sg sl x y rt), i.W.cell? ⟨w.heap.size + 1 + 1, 0, none⟩ = some (.int .i64 sg) := fun i => i.h.a.c0
    have Fa1 : ∀ i : In (Inv w sg sl x y rt), i.W.cell? ⟨w.heap.size + 1 + 1, 1, none⟩ = some (.int .i64 sl) := fun i => i.h.a.c1
    have Fa2 : ∀ i : In (Inv w sg sl x y rt), i.W.cell? ⟨w.heap.size + 1 + 1, 2, none⟩ = some (.float .f64 4607182418800017408) := fun i => i.h.a.c2
    have Fa3 : ∀ i : In (Inv w sg sl x y rt), i.W.cell? ⟨w.heap.size + 1 + 1, 3, none⟩ = some (.int .i64 rt) := fun i => i.h.a.c3
    refine region_class (Inv w sg sl x y rt) (by kernel_rfl) (by kernel_rfl) i1.drawn ?_
    repeat (go_big_quiet_step (first
      | (go_at_call 14; exact class_call _ (fun hi => inv_ge hi (sectors_is sg sl rt x B _ hx HS.out)))
      | (go_at_call 16; with_reducible exact class_call _ (fun hi => inv_ge hi (quota_is sg sl rt x q _ hx Q.out)))
      | (go_at_call 16; with_reducible exact class_call _ (fun hi => inv_ge hi (quota_is sg sl rt 4607182418800017408 G _ (by omega) HA.out)))))
    refine wpQuiet_nil ?_
    rintro _ ⟨i, rfl⟩
    go_wp2_with fail
    go_meet
    exact ⟨rfl, i.h⟩
  case rest =>
  obtain ⟨rfl, i2⟩ := hcut
  go_wp2_with fail
  (with_reducible refine (C5.out _).mono ?_)
  rintro e w3 ⟨rfl, rfl⟩
  go_upto_region 11 with fail
  go_cut [8, 9] (fun s8 s9 wx => s9 = .bool true ∧ Inv w sg sl x y rt wx)
  case first =>
    have o2 := O2.out
    rcases hk with hk | hk | hk
    all_goals
      rw [hk]
      clear hk
      go_wp2_with fail
      go_meet
      exact ⟨rfl, i2⟩
  case rest =>
  obtain ⟨rfl, i3⟩ := hcut
  clear i2
  obtain ⟨l, c0, c1, c2, c3⟩ := i3.m
  go_wp2_with fail
  clear l c0 c1 c2 c3
  (with_reducible refine (C6.out _).mono ?_)
  rintro e w4 ⟨rfl, hb4⟩
  have i4 := i3.later hb4
  go_upto_region 14 with fail
  clear i3 hb4
  have e5 := E5.out
  have e6 := E6.out
  have e7 := E7.out
  have t3 := T3.out
  clear hk O2
  have o3 := o.out
  have hne : Nonempty (In (Inv w sg sl x y rt)) := ⟨⟨_, i4⟩⟩
  have Fl0 : ∀ i : In (Inv w sg sl x y rt), i.W.cell? ⟨w.heap.size, 0, none⟩ = some (.int .i64 sg) := fun i => i.h.l.c0
  have Fl1 : ∀ i : In (Inv w sg sl x y rt), i.W.cell? ⟨w.heap.size, 1, none⟩ = some (.int .i64 sl) := fun i => i.h.l.c1
  have Fl2 : ∀ i : In (Inv w sg sl x y rt), i.W.cell? ⟨w.heap.size, 2, none⟩ = some (.float .f64 x) := fun i => i.h.l.c2
  have Fl3 : ∀ i : In (Inv w sg sl x y rt), i.W.cell? ⟨w.heap.size, 3, none⟩ = some (.int .i64 rt) := fun i => i.h.l.c3
  have Fm0 : ∀ i : In (Inv w sg sl x y rt), i.W.cell? ⟨w.heap.size + 1, 0, none⟩ = some (.int .i64 sg) := fun i => i.h.m.c0
  have Fm1 : ∀ i : In (Inv w sg sl x y rt), i.W.cell? ⟨w.heap.size + 1, 1, none⟩ = some (.int .i64 sl) := fun i => i.h.m.c1
  have Fm2 : ∀ i : In (Inv w sg sl x y rt), i.W.cell? ⟨w.heap.size + 1, 2, none⟩ = some (.float .f64 y) := fun i => i.h.m.c2
  have Fm3 : ∀ i : In (Inv w sg sl x y rt), i.W.cell? ⟨w.heap.size + 1, 3, none⟩ = some (.int .i64 rt) := fun i => i.h.m.c3
  have Fa0 : ∀ i : In (Inv w sg sl x y rt), i.W.cell? ⟨w.heap.size + 1 + 1, 0, none⟩ = some (.int .i64 sg) := fun i => i.h.a.c0
  have Fa1 : ∀ i : In (Inv w sg sl x y rt), i.W.cell? ⟨w.heap.size + 1 + 1, 1, none⟩ = some (.int .i64 sl) := fun i => i.h.a.c1
  have Fa2 : ∀ i : In (Inv w sg sl x y rt), i.W.cell? ⟨w.heap.size + 1 + 1, 2, none⟩ = some (.float .f64 4607182418800017408) := fun i => i.h.a.c2
  have Fa3 : ∀ i : In (Inv w sg sl x y rt), i.W.cell? ⟨w.heap.size + 1 + 1, 3, none⟩ = some (.int .i64 rt) := fun i => i.h.a.c3
  refine region_class (Inv w sg sl x y rt) (by kernel_rfl) (by kernel_rfl) i4.drawn ?_
  repeat (go_big_quiet_step (first
    | (go_at_call 18; exact class_call _ (fun hi => inv_ge hi (bound_is sg sl rt x bo _ hx O.out)))
    | (go_at_call 16; with_reducible exact class_call _ (fun hi => inv_ge hi (quota_is sg sl rt x q _ hx Q.out)))
    | (go_at_call 16; with_reducible exact class_call _ (fun hi => inv_ge hi (quota_is sg sl rt y qy _ hy QY.out)))
    | (go_at_call 20; exact class_call _ (fun hi => inv_ge hi (fixed_any _)))))
  refine wpQuiet_nil ?_
  rintro _ ⟨i, rfl⟩
  go_wp2_with fail
  go_ret
  exact ⟨rfl, i.h.b⟩

set_option maxRecDepth 100000 in
set_option maxHeartbeats 8000000 in
theorem may_ge (sg sl : Int) (x : Nat) (rt : Int) (y : Nat) (n : Int) (hx : x < 18446744073709551616) (hy : y < 18446744073709551616) (M : MayC sg sl x rt) (hn : Hid (sg * sl = n)) (hs : inS y) (o : Hid ((FloatKind.f64.format.order y x == some .lt) = false)) (hk : key x ≤ key y) (w : World) :
    Calls Try.prog 5 #[.agg #[.int .i64 sg, .int .i64 sl, .float .f64 x, .int .i64 rt], .float .f64 y] w fun e w' => e = .returned (.bool true) ∧ Below w.heap.size w w' := by
  have hi0 := lay_three w sg sl rt x y
  have hsf := fun (a : Addr) (x : Nat) (w : World) => run_store Try.prog w a (.float .f64 x) .plain rfl
  have C1 := Lib.hid (fun w => conf_yes sg sl rt x w M)
  have C5 := Lib.hid (fun w => R3.kind_any y w hy)
  obtain ⟨n0, n1, n2, n3⟩ := n_bd sg sl rt n x M hn.out
  obtain ⟨A, e1⟩ : ∃ A, IntKind.i64.wrap (n + sg) = A := ⟨_, rfl⟩
  obtain ⟨B, e2⟩ : ∃ B, IntKind.i64.wrap (A + 2) = B := ⟨_, rfl⟩
  obtain ⟨E, e3⟩ : ∃ E, IntKind.i64.wrap (2 * sl) = E := ⟨_, rfl⟩
  obtain ⟨G, e4⟩ : ∃ G, IntKind.i64.wrap (n - E) = G := ⟨_, rfl⟩
  obtain ⟨P, e5⟩ : ∃ P, IntKind.i64.wrap (3 * n) = P := ⟨_, rfl⟩
  obtain ⟨R, e6⟩ : ∃ R, IntKind.i64.wrap (3 * sl) = R := ⟨_, rfl⟩
  obtain ⟨Z, e7⟩ : ∃ Z, IntKind.i64.wrap (P - R) = Z := ⟨_, rfl⟩
  have MB := M
  obtain ⟨⟨s0, s1⟩, ⟨l0, l1⟩, ⟨r0, r1⟩, hS⟩ := MB
  have qA : A = n + sg := by rw [← e1]; exact wrap_in (by omega) (by omega)
  have qB : B = n + sg + 2 := by rw [← e2, qA]; exact wrap_in (by omega) (by omega)
  have qE : E = 2 * sl := by rw [← e3]; exact wrap_in (by omega) (by omega)
  have qG : G = n - 2 * sl := by rw [← e4, qE]; exact wrap_in (by omega) (by omega)
  have qP : P = 3 * n := by rw [← e5]; exact wrap_in (by omega) (by omega)
  have qR : R = 3 * sl := by rw [← e6]; exact wrap_in (by omega) (by omega)
  have qZ : Z = 3 * n - 3 * sl := by rw [← e7, qP, qR]; exact wrap_in (by omega) (by omega)
  obtain ⟨q, Q⟩ : ∃ q, Hid (quC sg sl x rt = q) := ⟨_, rfl⟩
  obtain ⟨bo, O⟩ : ∃ b, Hid (boC sg sl x rt = b) := ⟨_, rfl⟩
  have hq := qu_bd sg sl rt n x M hn.out
  have ho := bo_ge sg sl rt n x M hn.out
  rw [Q.out] at hq
  rw [O.out] at ho
  have HS := Lib.hid (show scC sg sl x rt = B by rw [qB]; exact sc_is sg sl rt n x M hn.out)
  have HA := Lib.hid (show quC sg sl 4607182418800017408 rt = G by rw [qG]; exact qu_all sg sl rt n x M hn.out)
  have t1 : decide (q < 0) = false := decide_eq_false (by omega)
  have t2 : decide (G < q) = false := decide_eq_false (by omega)
  have t3 : decide (Z ≤ bo) = true := decide_eq_true (by omega)
  have h1 : 0 ≤ sg * sl := by rw [hn.out]; exact n0
  have h2 : sg * sl ≤ 480 := by rw [hn.out]; exact n1
  obtain ⟨qy, QY⟩ : ∃ q, Hid (quC sg sl y rt = q) := ⟨_, rfl⟩
  have kc := kd_cases y hy
  have ky := key_spec y
  have C6 := Lib.hid (fun w => conf_yes sg sl rt y w ⟨M.1, M.2.1, M.2.2.1, hs⟩)
  have hk3 : kd y = 3 ∨ kd y = 4 ∨ kd y = 5 := by unfold inS at hs; omega
  have o2 : (FloatKind.f64.format.order y 4607182418800017408 == some .lt || FloatKind.f64.format.order y 4607182418800017408 == some .eq) = true := by
    unfold inS at hs
    by_cases g : key y = 4607182418800017408
    · rw [oeq y _ hy (by omega) (by omega) (by omega) (by rw [key_1]; omega)]; rfl
    · rw [olt y _ hy (by omega) (by omega) (by omega) (by rw [key_1]; omega)]; rfl
  have O2 := Lib.hid o2
  clear o2 kc ky
  have t4 : decide (q ≤ qy) = true := decide_eq_true (by have := qu_mono sg sl rt x y M hs hk; rw [Q.out, QY.out] at this; exact this)
  have T4 := Lib.hid t4
  clear hs hk t4
  have E1 := Lib.hid e1
  have E2 := Lib.hid e2
  have E3 := Lib.hid e3
  have E4 := Lib.hid e4
  have E5 := Lib.hid e5
  have E6 := Lib.hid e6
  have E7 := Lib.hid e7
  have T1 := Lib.hid t1
  have T2 := Lib.hid t2
  have T3 := Lib.hid t3
  clear e1 e2 e3 e4 e5 e6 e7 t1 t2 t3 qA qB qE qG qP qR qZ n0 n1 n2 n3 hq ho M hS s0 s1 l0 l1 r0 r1
  go_enter Try.func5, Try.ntmps5
  go_wp2_with fail
  generalize (((w.alloc (.cells #[.int .i64 sg, .int .i64 sl, .float .f64 x, .int .i64 rt] 24)).alloc (.cells #[.int .i64 sg, .int .i64 sl, .float .f64 y, .int .i64 rt] 24)).alloc (.cells #[.int .i64 sg, .int .i64 sl, .float .f64 4607182418800017408, .int .i64 rt] 24)) = W at hi0 ⊢
  clear hsf
  (with_reducible refine (C1.out _).mono ?_)
  rintro e w1 ⟨rfl, hb1⟩
  have i1 := hi0.later hb1
  obtain ⟨l, c0, c1, c2, c3⟩ := i1.l
  go_upto_region 8 with fail
  clear l c0 c1 c2 c3 h1 h2
  rw [hn.out]
  go_cut [71] (fun s71 wx => s71 = .bool false ∧ Inv w sg sl x y rt wx)
  case first =>
    have e1 := E1.out
    have e2 := E2.out
    have e3 := E3.out
    have e4 := E4.out
    have t1 := T1.out
    have t2 := T2.out
    have hne : Nonempty (In (Inv w sg sl x y rt)) := ⟨⟨_, i1⟩⟩
    have Fl0 : ∀ i : In (Inv w sg sl x y rt), i.W.cell? ⟨w.heap.size, 0, none⟩ = some (.int .i64 sg) := fun i => i.h.l.c0
    have Fl1 : ∀ i : In (Inv w sg sl x y rt), i.W.cell? ⟨w.heap.size, 1, none⟩ = some (.int .i64 sl) := fun i => i.h.l.c1
    have Fl2 : ∀ i : In (Inv w sg sl x y rt), i.W.cell? ⟨w.heap.size, 2, none⟩ = some (.float .f64 x) := fun i => i.h.l.c2
    have Fl3 : ∀ i : In (Inv w sg sl x y rt), i.W.cell? ⟨w.heap.size, 3, none⟩ = some (.int .i64 rt) := fun i => i.h.l.c3
    have Fm0 : ∀ i : In (Inv w sg sl x y rt), i.W.cell? ⟨w.heap.size + 1, 0, none⟩ = some (.int .i64 sg) := fun i => i.h.m.c0
    have Fm1 : ∀ i : In (Inv w sg sl x y rt), i.W.cell? ⟨w.heap.size + 1, 1, none⟩ = some (.int .i64 sl) := fun i => i.h.m.c1
    have Fm2 : ∀ i : In (Inv w sg sl x y rt), i.W.cell? ⟨w.heap.size + 1, 2, none⟩ = some (.float .f64 y) := fun i => i.h.m.c2
    have Fm3 : ∀ i : In (Inv w sg sl x y rt), i.W.cell? ⟨w.heap.size + 1, 3, none⟩ = some (.int .i64 rt) := fun i => i.h.m.c3
    have Fa0 : ∀ i : In (Inv w sg sl x y rt), i.W.cell? ⟨w.heap.size + 1 + 1, 0, none⟩ = some (.int .i64 sg) := fun i => i.h.a.c0
    have Fa1 : ∀ i : In (Inv w sg sl x y rt), i.W.cell? ⟨w.heap.size + 1 + 1, 1, none⟩ = some (.int .i64 sl) := fun i => i.h.a.c1
    have Fa2 : ∀ i : In (Inv w sg sl x y rt), i.W.cell? ⟨w.heap.size + 1 + 1, 2, none⟩ = some (.float .f64 4607182418800017408) := fun i => i.h.a.c2
    have Fa3 : ∀ i : In (Inv w sg sl x y rt), i.W.cell? ⟨w.heap.size + 1 + 1, 3, none⟩ = some (.int .i64 rt) := fun i => i.h.a.c3
    refine region_class (Inv w sg sl x y rt) (by kernel_rfl) (by kernel_rfl) i1.drawn ?_
    repeat (go_big_quiet_step (first
      | (go_at_call 14; exact class_call _ (fun hi => inv_ge hi (sectors_is sg sl rt x B _ hx HS.out)))
      | (go_at_call 16; with_reducible exact class_call _ (fun hi => inv_ge hi (quota_is sg sl rt x q _ hx Q.out)))
      | (go_at_call 16; with_reducible exact class_call _ (fun hi => inv_ge hi (quota_is sg sl rt 4607182418800017408 G _ (by omega) HA.out)))))
    refine wpQuiet_nil ?_
    rintro _ ⟨i, rfl⟩
    go_wp2_with fail
    go_meet
    exact ⟨rfl, i.h⟩
  case rest =>
  obtain ⟨rfl, i2⟩ := hcut
  go_wp2_with fail
  (with_reducible refine (C5.out _).mono ?_)
  rintro e w3 ⟨rfl, rfl⟩
  go_upto_region 11 with fail
  go_cut [8, 9] (fun s8 s9 wx => s9 = .bool true ∧ Inv w sg sl x y rt wx)
  case first =>
    have o2 := O2.out
    rcases hk3 with hk | hk | hk
    all_goals
      rw [hk]
      clear hk
      go_wp2_with fail
      go_meet
      exact ⟨rfl, i2⟩
  case rest =>
  obtain ⟨rfl, i3⟩ := hcut
  clear i2
  obtain ⟨l, c0, c1, c2, c3⟩ := i3.m
  go_wp2_with fail
  clear l c0 c1 c2 c3
  (with_reducible refine (C6.out _).mono ?_)
  rintro e w4 ⟨rfl, hb4⟩
  have i4 := i3.later hb4
  go_upto_region 14 with fail
  clear i3 hb4
  have e5 := E5.out
  have e6 := E6.out
  have e7 := E7.out
  have t3 := T3.out
  clear hk3 O2
  have o3 := o.out
  have t4 := T4.out
  have hne : Nonempty (In (Inv w sg sl x y rt)) := ⟨⟨_, i4⟩⟩
  have Fl0 : ∀ i : In (Inv w sg sl x y rt), i.W.cell? ⟨w.heap.size, 0, none⟩ = some (.int .i64 sg) := fun i => i.h.l.c0
  have Fl1 : ∀ i : In (Inv w sg sl x y rt), i.W.cell? ⟨w.heap.size, 1, none⟩ = some (.int .i64 sl) := fun i => i.h.l.c1
  have Fl2 : ∀ i : In (Inv w sg sl x y rt), i.W.cell? ⟨w.heap.size, 2, none⟩ = some (.float .f64 x) := fun i => i.h.l.c2
  have Fl3 : ∀ i : In (Inv w sg sl x y rt), i.W.cell? ⟨w.heap.size, 3, none⟩ = some (.int .i64 rt) := fun i => i.h.l.c3
  have Fm0 : ∀ i : In (Inv w sg sl x y rt), i.W.cell? ⟨w.heap.size + 1, 0, none⟩ = some (.int .i64 sg) := fun i => i.h.m.c0
  have Fm1 : ∀ i : In (Inv w sg sl x y rt), i.W.cell? ⟨w.heap.size + 1, 1, none⟩ = some (.int .i64 sl) := fun i => i.h.m.c1
  have Fm2 : ∀ i : In (Inv w sg sl x y rt), i.W.cell? ⟨w.heap.size + 1, 2, none⟩ = some (.float .f64 y) := fun i => i.h.m.c2
  have Fm3 : ∀ i : In (Inv w sg sl x y rt), i.W.cell? ⟨w.heap.size + 1, 3, none⟩ = some (.int .i64 rt) := fun i => i.h.m.c3
  have Fa0 : ∀ i : In (Inv w sg sl x y rt), i.W.cell? ⟨w.heap.size + 1 + 1, 0, none⟩ = some (.int .i64 sg) := fun i => i.h.a.c0
  have Fa1 : ∀ i : In (Inv w sg sl x y rt), i.W.cell? ⟨w.heap.size + 1 + 1, 1, none⟩ = some (.int .i64 sl) := fun i => i.h.a.c1
  have Fa2 : ∀ i : In (Inv w sg sl x y rt), i.W.cell? ⟨w.heap.size + 1 + 1, 2, none⟩ = some (.float .f64 4607182418800017408) := fun i => i.h.a.c2
  have Fa3 : ∀ i : In (Inv w sg sl x y rt), i.W.cell? ⟨w.heap.size + 1 + 1, 3, none⟩ = some (.int .i64 rt) := fun i => i.h.a.c3
  refine region_class (Inv w sg sl x y rt) (by kernel_rfl) (by kernel_rfl) i4.drawn ?_
  repeat (go_big_quiet_step (first
    | (go_at_call 18; exact class_call _ (fun hi => inv_ge hi (bound_is sg sl rt x bo _ hx O.out)))
    | (go_at_call 16; with_reducible exact class_call _ (fun hi => inv_ge hi (quota_is sg sl rt x q _ hx Q.out)))
    | (go_at_call 16; with_reducible exact class_call _ (fun hi => inv_ge hi (quota_is sg sl rt y qy _ hy QY.out)))
    | (go_at_call 20; exact class_call _ (fun hi => inv_ge hi (fixed_any _)))))
  refine wpQuiet_nil ?_
  rintro _ ⟨i, rfl⟩
  go_wp2_with fail
  go_ret
  exact ⟨rfl, i.h.b⟩

set_option maxRecDepth 100000 in
set_option maxHeartbeats 1000000 in
theorem walk (sg sl : Int) (x : Nat) (rt : Int) (y : Nat) (_ : (Lit.int .i64 sg).wf = true) (_ : (Lit.int .i64 sl).wf = true) (wx : (Lit.float .f64 x).wf = true) (_ : (Lit.int .i64 rt).wf = true) (wy : (Lit.float .f64 y).wf = true) (w : World) :
    Calls Try.prog 5 #[.agg #[.int .i64 sg, .int .i64 sl, .float .f64 x, .int .i64 rt], .float .f64 y] w fun e w' => e = .returned (.bool true) ∧ Below w.heap.size w w' := by
  have hx : x < 18446744073709551616 := by simpa [Lit.wf] using wx
  have hy : y < 18446744073709551616 := by simpa [Lit.wf] using wy
  by_cases N : MayC sg sl x rt
  · by_cases hs : inS y
    · have hS := N.2.2.2
      have h1 := hS
      have h2 := hs
      unfold inS at h1 h2
      by_cases h : key y < key x
      · exact may_lt sg sl x rt y _ hx hy N (Lib.hid rfl) hs (Lib.hid (olt y x hy hx (by omega) (by omega) h)) w
      · refine may_ge sg sl x rt y _ hx hy N (Lib.hid rfl) hs (Lib.hid ?_) (by omega) w
        by_cases g : key y = key x
        · rw [oeq y x hy hx (by omega) (by omega) g]; rfl
        · rw [ogt y x hy hx (by omega) (by omega) (by omega)]; rfl
    · exact may_no sg sl x rt y _ hx hy N (Lib.hid rfl) hs w
  · exact none_may sg sl x rt y hx N w

theorem cellsT0 : Try.prog.cellsOf 24 = 4 := by kernel_rfl

theorem reads0 {H : Type} {enc : TypeId × Value → H} {W' : World} {b : Nat} {sp : Nat → Bool} {hd : Bool} {a0_0 : Int} {a0_1 : Int} {a0_2 : Nat} {a0_3 : Int} (w0_0 : (Lit.int .i64 a0_0).wf = true) (w0_1 : (Lit.int .i64 a0_1).wf = true) (w0_2 : (Lit.float .f64 a0_2).wf = true) (w0_3 : (Lit.int .i64 a0_3).wf = true) :
    DataW.Trod enc Try.prog W' b sp hd 24 (.agg #[.int .i64 a0_0, .int .i64 a0_1, .float .f64 a0_2, .int .i64 a0_3]) (.agg [.lit (.int .i64 a0_0), .lit (.int .i64 a0_1), .lit (.float .f64 a0_2), .lit (.int .i64 a0_3)]) [] := by
  simpa using shut_agg4 (enc := enc) (w := W') (base := b) (spare := sp) (held := hd) (y0 := (.lit (.int .i64 a0_0), [])) (y1 := (.lit (.int .i64 a0_1), [])) (y2 := (.lit (.float .f64 a0_2), [])) (y3 := (.lit (.int .i64 a0_3), [])) Try.underlying24 (by kernel_rfl) cellsT0 ⟨1, by simp [DataW.trod, Try.underlying3, w0_0]⟩ ⟨1, by simp [DataW.trod, Try.underlying3, w0_1]⟩ ⟨1, by simp [DataW.trod, Try.underlying22, w0_2]⟩ ⟨1, by simp [DataW.trod, Try.underlying3, w0_3]⟩

set_option maxRecDepth 100000 in
theorem lifted (os : Os) (started : os.Started) (H : Type) (enc : TypeId × Value → H) :
    ReturnsInHanded {} Try.checked os 5 .any (Rows.checkQuotaSpec.pre6 enc Try.prog Try.f5 Rows.checkQuotaRow.domain false) (Rows.checkQuotaSpec.post enc Try.prog Try.f5 false true false false) := by
  refine returnsInHanded_of_change (C := Try.checked) own started (by kernel_rfl) Try.func5
    (ChangeSpec.witness6 (enc := enc) (C := Try.checked) false ⟨#[], #[.agg #[.int .i64 0, .int .i64 0, .float .f64 0, .int .i64 0], .float .f64 0], []⟩ 8 (by kernel_rfl) (by kernel_rfl) (by kernel_rfl) (by kernel_rfl)) ?_
  intro W base args ds gs before hval0 hW hcnd _
  have hval : ∀ (j : Nat) t v, Try.f5.params[j]? = some t → args[j]? = some v → Value.okWide Try.prog W .any base t v := hval0
  have hW' := hW
  obtain ⟨p, q, hA0, hV, rfl, hfz, hnd⟩ := hW
  have hA : DataW.TrodAll enc Try.prog W 0 (fun _ => true) true Try.f5.params.toList args.toList ds p := hA0
  rw [Try.params5] at hA hval
  obtain ⟨v0, vs0, d0, ds0, p0, q0, hargs, rfl, rfl, h0, r0⟩ := trodAll_cons hA
  obtain ⟨v1, vs1, d1, ds1, p1, q1, rfl, rfl, rfl, h1, r1⟩ := trodAll_cons r0
  obtain ⟨rfl, rfl, rfl⟩ := trodAll_nil r1
  obtain rfl : args = #[v0, v1] := by cases args; simp_all
  obtain ⟨rfl, rfl⟩ := trodVars_none hV
  obtain ⟨c0_0, c0_1, c0_2, c0_3, y0_0, y0_1, y0_2, y0_3, m0, rfl, rfl, rfl, hy0_0, hy0_1, hy0_2, hy0_3⟩ := open_agg4 Try.underlying24 (by kernel_rfl) cellsT0 (hval 0 24 v0 rfl rfl) h0
  obtain ⟨a0_0, e0_0, rfl, w0_0⟩ := DataW.trod_int Try.underlying3 hy0_0
  obtain ⟨a0_1, e0_1, rfl, w0_1⟩ := DataW.trod_int Try.underlying3 hy0_1
  obtain ⟨a0_2, e0_2, rfl, w0_2⟩ := trod_float Try.underlying22 hy0_2
  obtain ⟨a0_3, e0_3, rfl, w0_3⟩ := DataW.trod_int Try.underlying3 hy0_3
  simp at e0_0 e0_1 e0_2 e0_3
  subst e0_0 e0_1 e0_2 e0_3
  obtain ⟨a1, rfl, rfl, rfl, w1⟩ := open_float Try.underlying22 (hval 1 22 v1 rfl rfl) h1
  clear hA0 hval0
  simp only [List.append_nil] at hW'
  refine (walk a0_0 a0_1 a0_2 a0_3 a1 w0_0 w0_1 w0_2 w0_3 w1 W).mono fun e W' ⟨he, hg⟩ => ?_
  subst he
  exact ⟨_, rfl, post_plain hW' (fun _ _ _ => (trodAll_cons_mk (shut_bool Try.underlying4 _) trodAll_mk0)) (fun sp => (trodAll_cons_mk (reads0 w0_0 w0_1 w0_2 w0_3) (trodAll_cons_mk (shut_float Try.underlying22 w1) trodAll_mk0))) (fun _ => rfl) hg (ok_one (by kernel_rfl) rfl (okWide_bool_mk Try.underlying4 _))⟩

theorem over : Rows.checkQuotaRow.holds Try.pinned (OpenSpec.ofChange Rows.checkQuotaSpec) :=
  OpenClaim.holds_of_wide 5 Try.f5 rfl rfl rfl rfl rfl rfl rfl ⟨rfl, rfl, rfl, rfl, rfl⟩ rfl rfl rfl rfl rfl (by kernel_rfl) Try.func5 (by kernel_rfl)
    (of_decide_eq_true (by kernel_rfl)) (by unfold Func.isWrapper; first | (rw [if_pos (by decide +kernel)]; kernel_rfl) | (rw [if_neg (by decide +kernel)]; exact ⟨rfl, rfl⟩))
    (fun os started H enc _ => lifted os started H enc)

theorem proved : Rows.CheckQuotaSaid := over
#print axioms proved
end Go.Proofs.Ytnhkgialdnbohaa.checkQuota
