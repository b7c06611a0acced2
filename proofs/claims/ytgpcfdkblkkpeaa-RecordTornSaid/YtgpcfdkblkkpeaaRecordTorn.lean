/- For every two records and every place the statement RecordTorn about record.Next returns true, and changes nothing. Conditions: none. -/
import Derived.Test.YtgpcfdkblkkpeaaRecT
import Derived.Test.YtgpcfdkblkkpeaaRecO
import Derived.Deep.DeepCutAuto
import Derived.Deep.LoopGhost
import Derived.StillTailTactics
import Derived.WalkSmall
import Derived.Test.YtgpcfdkblkkpeaaClass
import Derived.Deep.QuietTactic
import Derived.BigQuiet
import Derived.ProofKit
import Derived.OpenShut
import Derived.ShutString
import Derived.SizedLaws
namespace Go.Proofs.Ytgpcfdkblkkpeaa.recordTorn
open Go.ChangeShapes Go.WideShapes Go.ChangeAt Go.RowKit Go.Lib Wd Cr Ck
open Go.ChangeMaps (open_string shut_string)
set_option linter.unusedVariables false

theorem own : ownKnob Try.prog.godebug = none := by kernel_rfl
theorem laid : laidOutB Try.prog = true := by kernel_rfl

structure InvT (w : World) (l0 e0 k0 v0 d0 : Int) (i0 a0 : ByteArray) (l1 e1 k1 v1 d1 : Int) (i1 a1 : ByteArray) (W : World) : Prop where
  b : Below w.heap.size w W
  m : LiesR W w.heap.size l0 e0 k0 v0 d0 i0 a0
  n : LiesR W (w.heap.size + 1) l1 e1 k1 v1 d1 i1 a1
theorem InvT.drawn {w W : World} {l0 e0 k0 v0 d0 : Int} {i0 a0 : ByteArray} {l1 e1 k1 v1 d1 : Int} {i1 a1 : ByteArray} (h : InvT w l0 e0 k0 v0 d0 i0 a0 l1 e1 k1 v1 d1 i1 a1 W) : InvT w l0 e0 k0 v0 d0 i0 a0 l1 e1 k1 v1 d1 i1 a1 { W with drawn := W.drawn + 1 } :=
  ⟨⟨h.b.os, h.b.tape, h.b.output, h.b.size, h.b.block⟩, ⟨h.m.lt, h.m.c0, h.m.c1, h.m.c2, h.m.c3, h.m.c4, h.m.c5, h.m.c6⟩, ⟨h.n.lt, h.n.c0, h.n.c1, h.n.c2, h.n.c3, h.n.c4, h.n.c5, h.n.c6⟩⟩

set_option maxRecDepth 100000 in
set_option maxHeartbeats 8000000 in
theorem nn (l0 e0 k0 v0 d0 : Int) (i0 a0 : ByteArray) (l1 e1 k1 v1 d1 : Int) (i1 a1 : ByteArray) (p : Int) (w : World) (hl0 : 0 ≤ l0 ∧ l0 < 18446744073709551616) (he0 : 0 ≤ e0 ∧ e0 < 4294967296) (hk0 : -9223372036854775808 ≤ k0 ∧ k0 ≤ 9223372036854775807) (hv0 : 0 ≤ v0 ∧ v0 < 18446744073709551616) (hd0 : 0 ≤ d0 ∧ d0 < 18446744073709551616) (hi0 : i0.size ≤ maxLen) (ha0 : a0.size ≤ maxLen) (hl1 : 0 ≤ l1 ∧ l1 < 18446744073709551616) (he1 : 0 ≤ e1 ∧ e1 < 4294967296) (hk1 : -9223372036854775808 ≤ k1 ∧ k1 ≤ 9223372036854775807) (hv1 : 0 ≤ v1 ∧ v1 < 18446744073709551616) (hd1 : 0 ≤ d1 ∧ d1 < 18446744073709551616) (hi1 : i1.size ≤ maxLen) (ha1 : a1.size ≤ maxLen) (E0 : Hid (∀ w, Calls Try.prog 10 #[.agg #[.int .u64 l0, .int .u32 e0, .int .i64 k0, .int .u64 v0, .int .u64 d0, .string (cut80 i0), .string (cut80 a0)]] w fun e' w' => e' = .returned (.tuple #[.string ⟨#[]⟩, .int .i64 5]) ∧ Below w.heap.size w w')) (E1 : Hid (∀ w, Calls Try.prog 10 #[.agg #[.int .u64 l1, .int .u32 e1, .int .i64 k1, .int .u64 v1, .int .u64 d1, .string (cut80 i1), .string (cut80 a1)]] w fun e' w' => e' = .returned (.tuple #[.string ⟨#[]⟩, .int .i64 5]) ∧ Below w.heap.size w w')) :
    Calls Try.prog 5 #[.agg #[.int .u64 l0, .int .u32 e0, .int .i64 k0, .int .u64 v0, .int .u64 d0, .string i0, .string a0], .agg #[.int .u64 l1, .int .u32 e1, .int .i64 k1, .int .u64 v1, .int .u64 d1, .string i1, .string a1], .int .u8 p] w fun e' w' => e' = .returned (.bool true) ∧ Below w.heap.size w w' := by
  have C0 := Lib.hid (fun w => lawcut_any l0 e0 k0 v0 d0 i0 a0 w hi0 ha0)
  have C1 := Lib.hid (fun w => lawcut_any l1 e1 k1 v1 d1 i1 a1 w hi1 ha1)
  generalize cut80 i0 = x0 at *
  generalize cut80 a0 = y0 at *
  generalize cut80 i1 = x1 at *
  generalize cut80 a1 = y1 at *
  have G0 := layF l0 e0 k0 v0 d0 i0 a0 25 w
  have B := below1 w (.cells #[.int .u64 l0, .int .u32 e0, .int .i64 k0, .int .u64 v0, .int .u64 d0, .string i0, .string a0] 25)
  have G1 := layF l1 e1 k1 v1 d1 i1 a1 25 (w.alloc (.cells #[.int .u64 l0, .int .u32 e0, .int .i64 k0, .int .u64 v0, .int .u64 d0, .string i0, .string a0] 25))
  rw [show (w.alloc (.cells #[.int .u64 l0, .int .u32 e0, .int .i64 k0, .int .u64 v0, .int .u64 d0, .string i0, .string a0] 25)).heap.size = w.heap.size + 1 by simp] at G1
  have hb := below1 (w.alloc (.cells #[.int .u64 l0, .int .u32 e0, .int .i64 k0, .int .u64 v0, .int .u64 d0, .string i0, .string a0] 25)) (.cells #[.int .u64 l1, .int .u32 e1, .int .i64 k1, .int .u64 v1, .int .u64 d1, .string i1, .string a1] 25)
  replace G0 := G0.later hb
  replace B := Wd.Ge.trans B hb
  clear hb
  clear hi0 ha0 hi1 ha1
  go_enter Try.func5, Try.ntmps5
  go_wp2_with fail
  refine (C0.out _).mono ?_
  rintro e' w1 ⟨rfl, hb⟩
  replace G0 := G0.later hb
  replace G1 := G1.later hb
  replace B := Wd.Ge.trans B hb
  clear hb
  obtain ⟨cg, c0, c1, c2, c3, c4, c5, c6⟩ := G0.L
  have z0 := G0.F 0 (by omega)
  have z1 := G0.F 1 (by omega)
  have z2 := G0.F 2 (by omega)
  have z3 := G0.F 3 (by omega)
  have z4 := G0.F 4 (by omega)
  have z5 := G0.F 5 (by omega)
  have z6 := G0.F 6 (by omega)
  go_upto_region 2 with fail
  clear c0 c1 c2 c3 c4 c5 c6 cg
  clear z0 z1 z2 z3 z4 z5 z6
  replace G1 := G1.away (B := w.heap.size) (l := l0) (e := e0) (k := k0) (v := v0) (d := d0) (i := x0) (a := y0) (by omega)
  replace G0 := G0.put (l := l0) (e := e0) (k := k0) (v := v0) (d := d0) (i := x0) (a := y0)
  replace B := below7 l0 e0 k0 v0 d0 x0 y0 B (Nat.le_refl w.heap.size)
  generalize (((((((w1.setCell ⟨w.heap.size, 0, none⟩ (.int .u64 l0)).setCell ⟨w.heap.size, 1, none⟩ (.int .u32 e0)).setCell ⟨w.heap.size, 2, none⟩ (.int .i64 k0)).setCell ⟨w.heap.size, 3, none⟩ (.int .u64 v0)).setCell ⟨w.heap.size, 4, none⟩ (.int .u64 d0)).setCell ⟨w.heap.size, 5, none⟩ (.string x0)).setCell ⟨w.heap.size, 6, none⟩ (.string y0)) = w2 at *
  obtain ⟨cg, c0, c1, c2, c3, c4, c5, c6⟩ := G1.L
  have z0 := G1.F 0 (by omega)
  have z1 := G1.F 1 (by omega)
  have z2 := G1.F 2 (by omega)
  have z3 := G1.F 3 (by omega)
  have z4 := G1.F 4 (by omega)
  have z5 := G1.F 5 (by omega)
  have z6 := G1.F 6 (by omega)
  go_wp2_with fail
  refine (C1.out _).mono ?_
  rintro e' w3 ⟨rfl, hb⟩
  clear c0 c1 c2 c3 c4 c5 c6 cg
  clear z0 z1 z2 z3 z4 z5 z6
  replace G0 := G0.later hb
  replace G1 := G1.later hb
  replace B := Wd.Ge.trans B hb
  clear hb
  obtain ⟨cg, c0, c1, c2, c3, c4, c5, c6⟩ := G1.L
  have z0 := G1.F 0 (by omega)
  have z1 := G1.F 1 (by omega)
  have z2 := G1.F 2 (by omega)
  have z3 := G1.F 3 (by omega)
  have z4 := G1.F 4 (by omega)
  have z5 := G1.F 5 (by omega)
  have z6 := G1.F 6 (by omega)
  go_upto_region 3 with fail
  clear c0 c1 c2 c3 c4 c5 c6 cg
  clear z0 z1 z2 z3 z4 z5 z6
  replace G0 := G0.away (B := (w.heap.size + 1)) (l := l1) (e := e1) (k := k1) (v := v1) (d := d1) (i := x1) (a := y1) (by omega)
  replace G1 := G1.put (l := l1) (e := e1) (k := k1) (v := v1) (d := d1) (i := x1) (a := y1)
  replace B := below7 l1 e1 k1 v1 d1 x1 y1 B (show w.heap.size ≤ (w.heap.size + 1) by omega)
  generalize (((((((w3.setCell ⟨(w.heap.size + 1), 0, none⟩ (.int .u64 l1)).setCell ⟨(w.heap.size + 1), 1, none⟩ (.int .u32 e1)).setCell ⟨(w.heap.size + 1), 2, none⟩ (.int .i64 k1)).setCell ⟨(w.heap.size + 1), 3, none⟩ (.int .u64 v1)).setCell ⟨(w.heap.size + 1), 4, none⟩ (.int .u64 d1)).setCell ⟨(w.heap.size + 1), 5, none⟩ (.string x1)).setCell ⟨(w.heap.size + 1), 6, none⟩ (.string y1)) = w4 at *
  clear C0 C1
  obtain ⟨cg, c0, c1, c2, c3, c4, c5, c6⟩ := G0.L
  go_wp2_with fail
  refine (E0.out _).mono ?_
  rintro e' w5 ⟨rfl, hb⟩
  clear c0 c1 c2 c3 c4 c5 c6 cg
  replace G0 := G0.later hb
  replace G1 := G1.later hb
  replace B := Wd.Ge.trans B hb
  clear hb
  obtain ⟨cg, c0, c1, c2, c3, c4, c5, c6⟩ := G1.L
  go_wp2_with fail
  refine (E1.out _).mono ?_
  rintro e' w6 ⟨rfl, hb⟩
  clear c0 c1 c2 c3 c4 c5 c6 cg
  replace G0 := G0.later hb
  replace G1 := G1.later hb
  replace B := Wd.Ge.trans B hb
  clear hb
  go_wp2_with fail
  refine (zero_any _).mono ?_
  rintro e' w6' ⟨rfl, rfl⟩
  have hzz := zeroTo_size 128
  go_wp2_with fail
  refine (fixed_any _).mono ?_
  rintro e' w7 ⟨rfl, hb⟩
  go_wp2_with fail
  go_ret
  exact ⟨rfl, Wd.Ge.trans B hb⟩

set_option maxRecDepth 100000 in
set_option maxHeartbeats 8000000 in
theorem ny (l0 e0 k0 v0 d0 : Int) (i0 a0 : ByteArray) (l1 e1 k1 v1 d1 : Int) (i1 a1 : ByteArray) (p : Int) (w : World) (hl0 : 0 ≤ l0 ∧ l0 < 18446744073709551616) (he0 : 0 ≤ e0 ∧ e0 < 4294967296) (hk0 : -9223372036854775808 ≤ k0 ∧ k0 ≤ 9223372036854775807) (hv0 : 0 ≤ v0 ∧ v0 < 18446744073709551616) (hd0 : 0 ≤ d0 ∧ d0 < 18446744073709551616) (hi0 : i0.size ≤ maxLen) (ha0 : a0.size ≤ maxLen) (hl1 : 0 ≤ l1 ∧ l1 < 18446744073709551616) (he1 : 0 ≤ e1 ∧ e1 < 4294967296) (hk1 : -9223372036854775808 ≤ k1 ∧ k1 ≤ 9223372036854775807) (hv1 : 0 ≤ v1 ∧ v1 < 18446744073709551616) (hd1 : 0 ≤ d1 ∧ d1 < 18446744073709551616) (hi1 : i1.size ≤ maxLen) (ha1 : a1.size ≤ maxLen) (E0 : Hid (∀ w, Calls Try.prog 10 #[.agg #[.int .u64 l0, .int .u32 e0, .int .i64 k0, .int .u64 v0, .int .u64 d0, .string (cut80 i0), .string (cut80 a0)]] w fun e' w' => e' = .returned (.tuple #[.string ⟨#[]⟩, .int .i64 5]) ∧ Below w.heap.size w w')) (S1 : ByteArray) (hz1 : S1.size = 128) (E1 : Hid (∀ w, Calls Try.prog 10 #[.agg #[.int .u64 l1, .int .u32 e1, .int .i64 k1, .int .u64 v1, .int .u64 d1, .string (cut80 i1), .string (cut80 a1)]] w fun e' w' => e' = .returned (.tuple #[.string S1, .int .i64 0]) ∧ Below w.heap.size w w')) :
    Calls Try.prog 5 #[.agg #[.int .u64 l0, .int .u32 e0, .int .i64 k0, .int .u64 v0, .int .u64 d0, .string i0, .string a0], .agg #[.int .u64 l1, .int .u32 e1, .int .i64 k1, .int .u64 v1, .int .u64 d1, .string i1, .string a1], .int .u8 p] w fun e' w' => e' = .returned (.bool true) ∧ Below w.heap.size w w' := by
  have C0 := Lib.hid (fun w => lawcut_any l0 e0 k0 v0 d0 i0 a0 w hi0 ha0)
  have C1 := Lib.hid (fun w => lawcut_any l1 e1 k1 v1 d1 i1 a1 w hi1 ha1)
  generalize cut80 i0 = x0 at *
  generalize cut80 a0 = y0 at *
  generalize cut80 i1 = x1 at *
  generalize cut80 a1 = y1 at *
  have G0 := layF l0 e0 k0 v0 d0 i0 a0 25 w
  have B := below1 w (.cells #[.int .u64 l0, .int .u32 e0, .int .i64 k0, .int .u64 v0, .int .u64 d0, .string i0, .string a0] 25)
  have G1 := layF l1 e1 k1 v1 d1 i1 a1 25 (w.alloc (.cells #[.int .u64 l0, .int .u32 e0, .int .i64 k0, .int .u64 v0, .int .u64 d0, .string i0, .string a0] 25))
  rw [show (w.alloc (.cells #[.int .u64 l0, .int .u32 e0, .int .i64 k0, .int .u64 v0, .int .u64 d0, .string i0, .string a0] 25)).heap.size = w.heap.size + 1 by simp] at G1
  have hb := below1 (w.alloc (.cells #[.int .u64 l0, .int .u32 e0, .int .i64 k0, .int .u64 v0, .int .u64 d0, .string i0, .string a0] 25)) (.cells #[.int .u64 l1, .int .u32 e1, .int .i64 k1, .int .u64 v1, .int .u64 d1, .string i1, .string a1] 25)
  replace G0 := G0.later hb
  replace B := Wd.Ge.trans B hb
  clear hb
  clear hi0 ha0 hi1 ha1
  go_enter Try.func5, Try.ntmps5
  go_wp2_with fail
  refine (C0.out _).mono ?_
  rintro e' w1 ⟨rfl, hb⟩
  replace G0 := G0.later hb
  replace G1 := G1.later hb
  replace B := Wd.Ge.trans B hb
  clear hb
  obtain ⟨cg, c0, c1, c2, c3, c4, c5, c6⟩ := G0.L
  have z0 := G0.F 0 (by omega)
  have z1 := G0.F 1 (by omega)
  have z2 := G0.F 2 (by omega)
  have z3 := G0.F 3 (by omega)
  have z4 := G0.F 4 (by omega)
  have z5 := G0.F 5 (by omega)
  have z6 := G0.F 6 (by omega)
  go_upto_region 2 with fail
  clear c0 c1 c2 c3 c4 c5 c6 cg
  clear z0 z1 z2 z3 z4 z5 z6
  replace G1 := G1.away (B := w.heap.size) (l := l0) (e := e0) (k := k0) (v := v0) (d := d0) (i := x0) (a := y0) (by omega)
  replace G0 := G0.put (l := l0) (e := e0) (k := k0) (v := v0) (d := d0) (i := x0) (a := y0)
  replace B := below7 l0 e0 k0 v0 d0 x0 y0 B (Nat.le_refl w.heap.size)
  generalize (((((((w1.setCell ⟨w.heap.size, 0, none⟩ (.int .u64 l0)).setCell ⟨w.heap.size, 1, none⟩ (.int .u32 e0)).setCell ⟨w.heap.size, 2, none⟩ (.int .i64 k0)).setCell ⟨w.heap.size, 3, none⟩ (.int .u64 v0)).setCell ⟨w.heap.size, 4, none⟩ (.int .u64 d0)).setCell ⟨w.heap.size, 5, none⟩ (.string x0)).setCell ⟨w.heap.size, 6, none⟩ (.string y0)) = w2 at *
  obtain ⟨cg, c0, c1, c2, c3, c4, c5, c6⟩ := G1.L
  have z0 := G1.F 0 (by omega)
  have z1 := G1.F 1 (by omega)
  have z2 := G1.F 2 (by omega)
  have z3 := G1.F 3 (by omega)
  have z4 := G1.F 4 (by omega)
  have z5 := G1.F 5 (by omega)
  have z6 := G1.F 6 (by omega)
  go_wp2_with fail
  refine (C1.out _).mono ?_
  rintro e' w3 ⟨rfl, hb⟩
  clear c0 c1 c2 c3 c4 c5 c6 cg
  clear z0 z1 z2 z3 z4 z5 z6
  replace G0 := G0.later hb
  replace G1 := G1.later hb
  replace B := Wd.Ge.trans B hb
  clear hb
  obtain ⟨cg, c0, c1, c2, c3, c4, c5, c6⟩ := G1.L
  have z0 := G1.F 0 (by omega)
  have z1 := G1.F 1 (by omega)
  have z2 := G1.F 2 (by omega)
  have z3 := G1.F 3 (by omega)
  have z4 := G1.F 4 (by omega)
  have z5 := G1.F 5 (by omega)
  have z6 := G1.F 6 (by omega)
  go_upto_region 3 with fail
  clear c0 c1 c2 c3 c4 c5 c6 cg
  clear z0 z1 z2 z3 z4 z5 z6
  replace G0 := G0.away (B := (w.heap.size + 1)) (l := l1) (e := e1) (k := k1) (v := v1) (d := d1) (i := x1) (a := y1) (by omega)
  replace G1 := G1.put (l := l1) (e := e1) (k := k1) (v := v1) (d := d1) (i := x1) (a := y1)
  replace B := below7 l1 e1 k1 v1 d1 x1 y1 B (show w.heap.size ≤ (w.heap.size + 1) by omega)
  generalize (((((((w3.setCell ⟨(w.heap.size + 1), 0, none⟩ (.int .u64 l1)).setCell ⟨(w.heap.size + 1), 1, none⟩ (.int .u32 e1)).setCell ⟨(w.heap.size + 1), 2, none⟩ (.int .i64 k1)).setCell ⟨(w.heap.size + 1), 3, none⟩ (.int .u64 v1)).setCell ⟨(w.heap.size + 1), 4, none⟩ (.int .u64 d1)).setCell ⟨(w.heap.size + 1), 5, none⟩ (.string x1)).setCell ⟨(w.heap.size + 1), 6, none⟩ (.string y1)) = w4 at *
  clear C0 C1
  obtain ⟨cg, c0, c1, c2, c3, c4, c5, c6⟩ := G0.L
  go_wp2_with fail
  refine (E0.out _).mono ?_
  rintro e' w5 ⟨rfl, hb⟩
  clear c0 c1 c2 c3 c4 c5 c6 cg
  replace G0 := G0.later hb
  replace G1 := G1.later hb
  replace B := Wd.Ge.trans B hb
  clear hb
  obtain ⟨cg, c0, c1, c2, c3, c4, c5, c6⟩ := G1.L
  go_wp2_with fail
  refine (E1.out _).mono ?_
  rintro e' w6 ⟨rfl, hb⟩
  clear c0 c1 c2 c3 c4 c5 c6 cg
  replace G0 := G0.later hb
  replace G1 := G1.later hb
  replace B := Wd.Ge.trans B hb
  clear hb
  go_wp2_with fail
  refine (fixed_any _).mono ?_
  rintro e' w7 ⟨rfl, hb⟩
  go_wp2_with fail
  go_ret
  exact ⟨rfl, Wd.Ge.trans B hb⟩

set_option maxRecDepth 100000 in
set_option maxHeartbeats 8000000 in
theorem ysame (l0 e0 k0 v0 d0 : Int) (i0 a0 : ByteArray) (l1 e1 k1 v1 d1 : Int) (i1 a1 : ByteArray) (p : Int) (w : World) (hl0 : 0 ≤ l0 ∧ l0 < 18446744073709551616) (he0 : 0 ≤ e0 ∧ e0 < 4294967296) (hk0 : -9223372036854775808 ≤ k0 ∧ k0 ≤ 9223372036854775807) (hv0 : 0 ≤ v0 ∧ v0 < 18446744073709551616) (hd0 : 0 ≤ d0 ∧ d0 < 18446744073709551616) (hi0 : i0.size ≤ maxLen) (ha0 : a0.size ≤ maxLen) (hl1 : 0 ≤ l1 ∧ l1 < 18446744073709551616) (he1 : 0 ≤ e1 ∧ e1 < 4294967296) (hk1 : -9223372036854775808 ≤ k1 ∧ k1 ≤ 9223372036854775807) (hv1 : 0 ≤ v1 ∧ v1 < 18446744073709551616) (hd1 : 0 ≤ d1 ∧ d1 < 18446744073709551616) (hi1 : i1.size ≤ maxLen) (ha1 : a1.size ≤ maxLen) (S0 S1 : ByteArray) (hz0 : S0.size = 128) (hz1 : S1.size = 128) (E0 : Hid (∀ w, Calls Try.prog 10 #[.agg #[.int .u64 l0, .int .u32 e0, .int .i64 k0, .int .u64 v0, .int .u64 d0, .string (cut80 i0), .string (cut80 a0)]] w fun e' w' => e' = .returned (.tuple #[.string S0, .int .i64 0]) ∧ Below w.heap.size w w')) (E1 : Hid (∀ w, Calls Try.prog 10 #[.agg #[.int .u64 l1, .int .u32 e1, .int .i64 k1, .int .u64 v1, .int .u64 d1, .string (cut80 i1), .string (cut80 a1)]] w fun e' w' => e' = .returned (.tuple #[.string S1, .int .i64 0]) ∧ Below w.heap.size w w')) (hpl : Hid (l0 = l1 ∧ e0 = e1)) :
    Calls Try.prog 5 #[.agg #[.int .u64 l0, .int .u32 e0, .int .i64 k0, .int .u64 v0, .int .u64 d0, .string i0, .string a0], .agg #[.int .u64 l1, .int .u32 e1, .int .i64 k1, .int .u64 v1, .int .u64 d1, .string i1, .string a1], .int .u8 p] w fun e' w' => e' = .returned (.bool true) ∧ Below w.heap.size w w' := by
  have C0 := Lib.hid (fun w => lawcut_any l0 e0 k0 v0 d0 i0 a0 w hi0 ha0)
  have C1 := Lib.hid (fun w => lawcut_any l1 e1 k1 v1 d1 i1 a1 w hi1 ha1)
  generalize cut80 i0 = x0 at *
  generalize cut80 a0 = y0 at *
  generalize cut80 i1 = x1 at *
  generalize cut80 a1 = y1 at *
  have G0 := layF l0 e0 k0 v0 d0 i0 a0 25 w
  have B := below1 w (.cells #[.int .u64 l0, .int .u32 e0, .int .i64 k0, .int .u64 v0, .int .u64 d0, .string i0, .string a0] 25)
  have G1 := layF l1 e1 k1 v1 d1 i1 a1 25 (w.alloc (.cells #[.int .u64 l0, .int .u32 e0, .int .i64 k0, .int .u64 v0, .int .u64 d0, .string i0, .string a0] 25))
  rw [show (w.alloc (.cells #[.int .u64 l0, .int .u32 e0, .int .i64 k0, .int .u64 v0, .int .u64 d0, .string i0, .string a0] 25)).heap.size = w.heap.size + 1 by simp] at G1
  have hb := below1 (w.alloc (.cells #[.int .u64 l0, .int .u32 e0, .int .i64 k0, .int .u64 v0, .int .u64 d0, .string i0, .string a0] 25)) (.cells #[.int .u64 l1, .int .u32 e1, .int .i64 k1, .int .u64 v1, .int .u64 d1, .string i1, .string a1] 25)
  replace G0 := G0.later hb
  replace B := Wd.Ge.trans B hb
  clear hb
  clear hi0 ha0 hi1 ha1
  go_enter Try.func5, Try.ntmps5
  go_wp2_with fail
  refine (C0.out _).mono ?_
  rintro e' w1 ⟨rfl, hb⟩
  replace G0 := G0.later hb
  replace G1 := G1.later hb
  replace B := Wd.Ge.trans B hb
  clear hb
  obtain ⟨cg, c0, c1, c2, c3, c4, c5, c6⟩ := G0.L
  have z0 := G0.F 0 (by omega)
  have z1 := G0.F 1 (by omega)
  have z2 := G0.F 2 (by omega)
  have z3 := G0.F 3 (by omega)
  have z4 := G0.F 4 (by omega)
  have z5 := G0.F 5 (by omega)
  have z6 := G0.F 6 (by omega)
  go_upto_region 2 with fail
  clear c0 c1 c2 c3 c4 c5 c6 cg
  clear z0 z1 z2 z3 z4 z5 z6
  replace G1 := G1.away (B := w.heap.size) (l := l0) (e := e0) (k := k0) (v := v0) (d := d0) (i := x0) (a := y0) (by omega)
  replace G0 := G0.put (l := l0) (e := e0) (k := k0) (v := v0) (d := d0) (i := x0) (a := y0)
  replace B := below7 l0 e0 k0 v0 d0 x0 y0 B (Nat.le_refl w.heap.size)
  generalize (((((((w1.setCell ⟨w.heap.size, 0, none⟩ (.int .u64 l0)).setCell ⟨w.heap.size, 1, none⟩ (.int .u32 e0)).setCell ⟨w.heap.size, 2, none⟩ (.int .i64 k0)).setCell ⟨w.heap.size, 3, none⟩ (.int .u64 v0)).setCell ⟨w.heap.size, 4, none⟩ (.int .u64 d0)).setCell ⟨w.heap.size, 5, none⟩ (.string x0)).setCell ⟨w.heap.size, 6, none⟩ (.string y0)) = w2 at *
  obtain ⟨cg, c0, c1, c2, c3, c4, c5, c6⟩ := G1.L
  have z0 := G1.F 0 (by omega)
  have z1 := G1.F 1 (by omega)
  have z2 := G1.F 2 (by omega)
  have z3 := G1.F 3 (by omega)
  have z4 := G1.F 4 (by omega)
  have z5 := G1.F 5 (by omega)
  have z6 := G1.F 6 (by omega)
  go_wp2_with fail
  refine (C1.out _).mono ?_
  rintro e' w3 ⟨rfl, hb⟩
  clear c0 c1 c2 c3 c4 c5 c6 cg
  clear z0 z1 z2 z3 z4 z5 z6
  replace G0 := G0.later hb
  replace G1 := G1.later hb
  replace B := Wd.Ge.trans B hb
  clear hb
  obtain ⟨cg, c0, c1, c2, c3, c4, c5, c6⟩ := G1.L
  have z0 := G1.F 0 (by omega)
  have z1 := G1.F 1 (by omega)
  have z2 := G1.F 2 (by omega)
  have z3 := G1.F 3 (by omega)
  have z4 := G1.F 4 (by omega)
  have z5 := G1.F 5 (by omega)
  have z6 := G1.F 6 (by omega)
  go_upto_region 3 with fail
  clear c0 c1 c2 c3 c4 c5 c6 cg
  clear z0 z1 z2 z3 z4 z5 z6
  replace G0 := G0.away (B := (w.heap.size + 1)) (l := l1) (e := e1) (k := k1) (v := v1) (d := d1) (i := x1) (a := y1) (by omega)
  replace G1 := G1.put (l := l1) (e := e1) (k := k1) (v := v1) (d := d1) (i := x1) (a := y1)
  replace B := below7 l1 e1 k1 v1 d1 x1 y1 B (show w.heap.size ≤ (w.heap.size + 1) by omega)
  generalize (((((((w3.setCell ⟨(w.heap.size + 1), 0, none⟩ (.int .u64 l1)).setCell ⟨(w.heap.size + 1), 1, none⟩ (.int .u32 e1)).setCell ⟨(w.heap.size + 1), 2, none⟩ (.int .i64 k1)).setCell ⟨(w.heap.size + 1), 3, none⟩ (.int .u64 v1)).setCell ⟨(w.heap.size + 1), 4, none⟩ (.int .u64 d1)).setCell ⟨(w.heap.size + 1), 5, none⟩ (.string x1)).setCell ⟨(w.heap.size + 1), 6, none⟩ (.string y1)) = w4 at *
  clear C0 C1
  obtain ⟨cg, c0, c1, c2, c3, c4, c5, c6⟩ := G0.L
  go_wp2_with fail
  refine (E0.out _).mono ?_
  rintro e' w5 ⟨rfl, hb⟩
  clear c0 c1 c2 c3 c4 c5 c6 cg
  replace G0 := G0.later hb
  replace G1 := G1.later hb
  replace B := Wd.Ge.trans B hb
  clear hb
  obtain ⟨cg, c0, c1, c2, c3, c4, c5, c6⟩ := G1.L
  go_wp2_with fail
  refine (E1.out _).mono ?_
  rintro e' w6 ⟨rfl, hb⟩
  clear c0 c1 c2 c3 c4 c5 c6 cg
  replace G0 := G0.later hb
  replace G1 := G1.later hb
  replace B := Wd.Ge.trans B hb
  clear hb
  obtain ⟨hl, he⟩ := hpl.out
  subst hl he
  clear hpl
  obtain ⟨cg, c0, c1, c2, c3, c4, c5, c6⟩ := G0.L
  obtain ⟨mg, m0, m1, m2, m3, m4, m5, m6⟩ := G1.L
  go_wp2_with fail
  refine (fixed_any _).mono ?_
  rintro e' w7 ⟨rfl, hb⟩
  go_wp2_with fail
  go_ret
  exact ⟨rfl, Wd.Ge.trans B hb⟩

set_option maxRecDepth 100000 in
set_option maxHeartbeats 8000000 in
theorem mf5 (l0 e0 k0 v0 d0 : Int) (i0 a0 : ByteArray) (l1 e1 k1 v1 d1 : Int) (i1 a1 : ByteArray) (p : Int) (w : World) (hl0 : 0 ≤ l0 ∧ l0 < 18446744073709551616) (he0 : 0 ≤ e0 ∧ e0 < 4294967296) (hk0 : -9223372036854775808 ≤ k0 ∧ k0 ≤ 9223372036854775807) (hv0 : 0 ≤ v0 ∧ v0 < 18446744073709551616) (hd0 : 0 ≤ d0 ∧ d0 < 18446744073709551616) (hi0 : i0.size ≤ maxLen) (ha0 : a0.size ≤ maxLen) (hl1 : 0 ≤ l1 ∧ l1 < 18446744073709551616) (he1 : 0 ≤ e1 ∧ e1 < 4294967296) (hk1 : -9223372036854775808 ≤ k1 ∧ k1 ≤ 9223372036854775807) (hv1 : 0 ≤ v1 ∧ v1 < 18446744073709551616) (hd1 : 0 ≤ d1 ∧ d1 < 18446744073709551616) (hi1 : i1.size ≤ maxLen) (ha1 : a1.size ≤ maxLen) (S0 : ByteArray) (hz0 : S0.size = 128) (E0 : Hid (∀ w, Calls Try.prog 10 #[.agg #[.int .u64 l0, .int .u32 e0, .int .i64 k0, .int .u64 v0, .int .u64 d0, .string (cut80 i0), .string (cut80 a0)]] w fun e' w' => e' = .returned (.tuple #[.string S0, .int .i64 0]) ∧ Below w.heap.size w w')) (E1 : Hid (∀ w, Calls Try.prog 10 #[.agg #[.int .u64 l1, .int .u32 e1, .int .i64 k1, .int .u64 v1, .int .u64 d1, .string (cut80 i1), .string (cut80 a1)]] w fun e' w' => e' = .returned (.tuple #[.string ⟨#[]⟩, .int .i64 5]) ∧ Below w.heap.size w w')) (k : Nat) (hk : k ≤ 128) (hp : p % 129 = (k : Int)) (hp0 : 0 ≤ p) (hp1 : p < 256) (M : ByteArray) (hM : S0.extract 0 k ++ (zeroTo 128).extract k 128 = M) (hu : ¬ 9223372036854775807 < (S0.extract 0 k).size + ((zeroTo 128).extract k 128).size) (l2 e2 k2 v2 d2 : Int) (i2 a2 : ByteArray) (hq : (M.toList == S0.toList) = false) (N0 : Hid (∀ w, Calls Try.prog 15 #[.string M, .int .u64 l0, .int .u32 e0] w fun e' w' => e' = .returned (.tuple #[.agg #[.int .u64 l2, .int .u32 e2, .int .i64 k2, .int .u64 v2, .int .u64 d2, .string i2, .string a2], .bool false]) ∧ Below w.heap.size w w')) (o2 : Bool) (l3 e3 k3 v3 d3 : Int) (i3 a3 : ByteArray) (N1 : Hid (∀ w, Calls Try.prog 15 #[.string M, .int .u64 l1, .int .u32 e1] w fun e' w' => e' = .returned (.tuple #[.agg #[.int .u64 l3, .int .u32 e3, .int .i64 k3, .int .u64 v3, .int .u64 d3, .string i3, .string a3], .bool o2]) ∧ Below w.heap.size w w')) :
    Calls Try.prog 5 #[.agg #[.int .u64 l0, .int .u32 e0, .int .i64 k0, .int .u64 v0, .int .u64 d0, .string i0, .string a0], .agg #[.int .u64 l1, .int .u32 e1, .int .i64 k1, .int .u64 v1, .int .u64 d1, .string i1, .string a1], .int .u8 p] w fun e' w' => e' = .returned (.bool true) ∧ Below w.heap.size w w' := by
  have hki : (k : Int) ≤ 128 := by omega
  have hk0' : (0 : Int) ≤ k := by omega
  have hz0i : (S0.size : Int) = 128 := by omega
  have hz1i : ((zeroTo 128).size : Int) = 128 := by rw [zeroTo_size]; rfl
  have C0 := Lib.hid (fun w => lawcut_any l0 e0 k0 v0 d0 i0 a0 w hi0 ha0)
  have C1 := Lib.hid (fun w => lawcut_any l1 e1 k1 v1 d1 i1 a1 w hi1 ha1)
  generalize cut80 i0 = x0 at *
  generalize cut80 a0 = y0 at *
  generalize cut80 i1 = x1 at *
  generalize cut80 a1 = y1 at *
  have G0 := layF l0 e0 k0 v0 d0 i0 a0 25 w
  have B := below1 w (.cells #[.int .u64 l0, .int .u32 e0, .int .i64 k0, .int .u64 v0, .int .u64 d0, .string i0, .string a0] 25)
  have G1 := layF l1 e1 k1 v1 d1 i1 a1 25 (w.alloc (.cells #[.int .u64 l0, .int .u32 e0, .int .i64 k0, .int .u64 v0, .int .u64 d0, .string i0, .string a0] 25))
  rw [show (w.alloc (.cells #[.int .u64 l0, .int .u32 e0, .int .i64 k0, .int .u64 v0, .int .u64 d0, .string i0, .string a0] 25)).heap.size = w.heap.size + 1 by simp] at G1
  have hb := below1 (w.alloc (.cells #[.int .u64 l0, .int .u32 e0, .int .i64 k0, .int .u64 v0, .int .u64 d0, .string i0, .string a0] 25)) (.cells #[.int .u64 l1, .int .u32 e1, .int .i64 k1, .int .u64 v1, .int .u64 d1, .string i1, .string a1] 25)
  replace G0 := G0.later hb
  replace B := Wd.Ge.trans B hb
  clear hb
  clear hi0 ha0 hi1 ha1
  go_enter Try.func5, Try.ntmps5
  go_wp2_with fail
  refine (C0.out _).mono ?_
  rintro e' w1 ⟨rfl, hb⟩
  replace G0 := G0.later hb
  replace G1 := G1.later hb
  replace B := Wd.Ge.trans B hb
  clear hb
  obtain ⟨cg, c0, c1, c2, c3, c4, c5, c6⟩ := G0.L
  have z0 := G0.F 0 (by omega)
  have z1 := G0.F 1 (by omega)
  have z2 := G0.F 2 (by omega)
  have z3 := G0.F 3 (by omega)
  have z4 := G0.F 4 (by omega)
  have z5 := G0.F 5 (by omega)
  have z6 := G0.F 6 (by omega)
  go_upto_region 2 with fail
  clear c0 c1 c2 c3 c4 c5 c6 cg
  clear z0 z1 z2 z3 z4 z5 z6
  replace G1 := G1.away (B := w.heap.size) (l := l0) (e := e0) (k := k0) (v := v0) (d := d0) (i := x0) (a := y0) (by omega)
  replace G0 := G0.put (l := l0) (e := e0) (k := k0) (v := v0) (d := d0) (i := x0) (a := y0)
  replace B := below7 l0 e0 k0 v0 d0 x0 y0 B (Nat.le_refl w.heap.size)
  generalize (((((((w1.setCell ⟨w.heap.size, 0, none⟩ (.int .u64 l0)).setCell ⟨w.heap.size, 1, none⟩ (.int .u32 e0)).setCell ⟨w.heap.size, 2, none⟩ (.int .i64 k0)).setCell ⟨w.heap.size, 3, none⟩ (.int .u64 v0)).setCell ⟨w.heap.size, 4, none⟩ (.int .u64 d0)).setCell ⟨w.heap.size, 5, none⟩ (.string x0)).setCell ⟨w.heap.size, 6, none⟩ (.string y0)) = w2 at *
  obtain ⟨cg, c0, c1, c2, c3, c4, c5, c6⟩ := G1.L
  have z0 := G1.F 0 (by omega)
  have z1 := G1.F 1 (by omega)
  have z2 := G1.F 2 (by omega)
  have z3 := G1.F 3 (by omega)
  have z4 := G1.F 4 (by omega)
  have z5 := G1.F 5 (by omega)
  have z6 := G1.F 6 (by omega)
  go_wp2_with fail
  refine (C1.out _).mono ?_
  rintro e' w3 ⟨rfl, hb⟩
  clear c0 c1 c2 c3 c4 c5 c6 cg
  clear z0 z1 z2 z3 z4 z5 z6
  replace G0 := G0.later hb
  replace G1 := G1.later hb
  replace B := Wd.Ge.trans B hb
  clear hb
  obtain ⟨cg, c0, c1, c2, c3, c4, c5, c6⟩ := G1.L
  have z0 := G1.F 0 (by omega)
  have z1 := G1.F 1 (by omega)
  have z2 := G1.F 2 (by omega)
  have z3 := G1.F 3 (by omega)
  have z4 := G1.F 4 (by omega)
  have z5 := G1.F 5 (by omega)
  have z6 := G1.F 6 (by omega)
  go_upto_region 3 with fail
  clear c0 c1 c2 c3 c4 c5 c6 cg
  clear z0 z1 z2 z3 z4 z5 z6
  replace G0 := G0.away (B := (w.heap.size + 1)) (l := l1) (e := e1) (k := k1) (v := v1) (d := d1) (i := x1) (a := y1) (by omega)
  replace G1 := G1.put (l := l1) (e := e1) (k := k1) (v := v1) (d := d1) (i := x1) (a := y1)
  replace B := below7 l1 e1 k1 v1 d1 x1 y1 B (show w.heap.size ≤ (w.heap.size + 1) by omega)
  generalize (((((((w3.setCell ⟨(w.heap.size + 1), 0, none⟩ (.int .u64 l1)).setCell ⟨(w.heap.size + 1), 1, none⟩ (.int .u32 e1)).setCell ⟨(w.heap.size + 1), 2, none⟩ (.int .i64 k1)).setCell ⟨(w.heap.size + 1), 3, none⟩ (.int .u64 v1)).setCell ⟨(w.heap.size + 1), 4, none⟩ (.int .u64 d1)).setCell ⟨(w.heap.size + 1), 5, none⟩ (.string x1)).setCell ⟨(w.heap.size + 1), 6, none⟩ (.string y1)) = w4 at *
  clear C0 C1
  obtain ⟨cg, c0, c1, c2, c3, c4, c5, c6⟩ := G0.L
  go_wp2_with fail
  refine (E0.out _).mono ?_
  rintro e' w5 ⟨rfl, hb⟩
  clear c0 c1 c2 c3 c4 c5 c6 cg
  replace G0 := G0.later hb
  replace G1 := G1.later hb
  replace B := Wd.Ge.trans B hb
  clear hb
  obtain ⟨cg, c0, c1, c2, c3, c4, c5, c6⟩ := G1.L
  go_wp2_with fail
  refine (E1.out _).mono ?_
  rintro e' w6 ⟨rfl, hb⟩
  clear c0 c1 c2 c3 c4 c5 c6 cg
  replace G0 := G0.later hb
  replace G1 := G1.later hb
  replace B := Wd.Ge.trans B hb
  clear hb
  go_wp2_with fail
  refine (zero_any _).mono ?_
  rintro e' w6' ⟨rfl, rfl⟩
  have hzz := zeroTo_size 128
  have h8 : InvT w l0 e0 k0 v0 d0 x0 y0 l1 e1 k1 v1 d1 x1 y1 w6 := ⟨B, G0.L, G1.L⟩
  go_upto_region 10 with fail
  have hne : Nonempty (In (InvT w l0 e0 k0 v0 d0 x0 y0 l1 e1 k1 v1 d1 x1 y1)) := ⟨⟨_, h8⟩⟩
  refine region_class (InvT w l0 e0 k0 v0 d0 x0 y0 l1 e1 k1 v1 d1 x1 y1) (by kernel_rfl) (by kernel_rfl) h8.drawn ?_
  repeat (go_big_quiet_step (fail))
  refine wpQuiet_nil ?_
  rintro _ ⟨jj, rfl⟩
  obtain ⟨w8, hw8⟩ := jj
  clear G0 G1 B h8 hne
  obtain ⟨B, L0, L1⟩ := hw8
  simp only
  obtain ⟨cg, c0, c1, c2, c3, c4, c5, c6⟩ := L0
  have L0 : LiesR w8 w.heap.size l0 e0 k0 v0 d0 x0 y0 := ⟨cg, c0, c1, c2, c3, c4, c5, c6⟩
  go_wp2_with fail
  refine (N0.out _).mono ?_
  rintro e' w9 ⟨rfl, hb⟩
  clear c0 c1 c2 c3 c4 c5 c6 cg
  replace L0 := L0.later hb
  replace L1 := L1.later hb
  replace B := Wd.Ge.trans B hb
  clear hb
  have M2 := layR l2 e2 k2 v2 d2 i2 a2 25 w9
  have hb := below1 w9 (.cells #[.int .u64 l2, .int .u32 e2, .int .i64 k2, .int .u64 v2, .int .u64 d2, .string i2, .string a2] 25)
  replace L0 := L0.later hb
  replace L1 := L1.later hb
  replace B := Wd.Ge.trans B hb
  clear hb
  go_upto_region 12 with fail
  generalize w9.alloc (.cells #[.int .u64 l2, .int .u32 e2, .int .i64 k2, .int .u64 v2, .int .u64 d2, .string i2, .string a2] 25) = w10 at *
  generalize w9.heap.size = b13 at *
  obtain ⟨cg, c0, c1, c2, c3, c4, c5, c6⟩ := L0
  obtain ⟨mg, m0, m1, m2, m3, m4, m5, m6⟩ := L1
  have L1 : LiesR w10 (w.heap.size + 1) l1 e1 k1 v1 d1 x1 y1 := ⟨mg, m0, m1, m2, m3, m4, m5, m6⟩
  obtain ⟨ng, n0, n1, n2, n3, n4, n5, n6⟩ := M2
  go_wp2_with fail
  refine (N1.out _).mono ?_
  rintro e' w11 ⟨rfl, hb⟩
  clear c0 c1 c2 c3 c4 c5 c6 cg
  clear m0 m1 m2 m3 m4 m5 m6 mg n0 n1 n2 n3 n4 n5 n6 ng L1
  replace B := Wd.Ge.trans B hb
  clear hb
  have M3 := layR l3 e3 k3 v3 d3 i3 a3 25 w11
  have hb := below1 w11 (.cells #[.int .u64 l3, .int .u32 e3, .int .i64 k3, .int .u64 v3, .int .u64 d3, .string i3, .string a3] 25)
  replace B := Wd.Ge.trans B hb
  clear hb
  go_upto_region 15 with fail
  generalize w11.alloc (.cells #[.int .u64 l3, .int .u32 e3, .int .i64 k3, .int .u64 v3, .int .u64 d3, .string i3, .string a3] 25) = w12 at *
  generalize w11.heap.size = b15 at *
  go_wp2_with fail
  refine (fixed_any _).mono ?_
  rintro e' w7 ⟨rfl, hb⟩
  go_wp2_with fail
  go_ret
  exact ⟨rfl, Wd.Ge.trans B hb⟩

set_option maxRecDepth 100000 in
set_option maxHeartbeats 8000000 in
theorem mt5 (l0 e0 k0 v0 d0 : Int) (i0 a0 : ByteArray) (l1 e1 k1 v1 d1 : Int) (i1 a1 : ByteArray) (p : Int) (w : World) (hl0 : 0 ≤ l0 ∧ l0 < 18446744073709551616) (he0 : 0 ≤ e0 ∧ e0 < 4294967296) (hk0 : -9223372036854775808 ≤ k0 ∧ k0 ≤ 9223372036854775807) (hv0 : 0 ≤ v0 ∧ v0 < 18446744073709551616) (hd0 : 0 ≤ d0 ∧ d0 < 18446744073709551616) (hi0 : i0.size ≤ maxLen) (ha0 : a0.size ≤ maxLen) (hl1 : 0 ≤ l1 ∧ l1 < 18446744073709551616) (he1 : 0 ≤ e1 ∧ e1 < 4294967296) (hk1 : -9223372036854775808 ≤ k1 ∧ k1 ≤ 9223372036854775807) (hv1 : 0 ≤ v1 ∧ v1 < 18446744073709551616) (hd1 : 0 ≤ d1 ∧ d1 < 18446744073709551616) (hi1 : i1.size ≤ maxLen) (ha1 : a1.size ≤ maxLen) (S0 : ByteArray) (hz0 : S0.size = 128) (E0 : Hid (∀ w, Calls Try.prog 10 #[.agg #[.int .u64 l0, .int .u32 e0, .int .i64 k0, .int .u64 v0, .int .u64 d0, .string (cut80 i0), .string (cut80 a0)]] w fun e' w' => e' = .returned (.tuple #[.string S0, .int .i64 0]) ∧ Below w.heap.size w w')) (E1 : Hid (∀ w, Calls Try.prog 10 #[.agg #[.int .u64 l1, .int .u32 e1, .int .i64 k1, .int .u64 v1, .int .u64 d1, .string (cut80 i1), .string (cut80 a1)]] w fun e' w' => e' = .returned (.tuple #[.string ⟨#[]⟩, .int .i64 5]) ∧ Below w.heap.size w w')) (k : Nat) (hk : k ≤ 128) (hp : p % 129 = (k : Int)) (hp0 : 0 ≤ p) (hp1 : p < 256) (hM : S0.extract 0 k ++ (zeroTo 128).extract k 128 = S0) (hu : ¬ 9223372036854775807 < (S0.extract 0 k).size + ((zeroTo 128).extract k 128).size) (N0 : Hid (∀ w, Calls Try.prog 15 #[.string S0, .int .u64 l0, .int .u32 e0] w fun e' w' => e' = .returned (.tuple #[.agg #[.int .u64 l0, .int .u32 e0, .int .i64 k0, .int .u64 v0, .int .u64 d0, .string (cut80 i0), .string (cut80 a0)], .bool true]) ∧ Below w.heap.size w w')) (o2 : Bool) (l3 e3 k3 v3 d3 : Int) (i3 a3 : ByteArray) (N1 : Hid (∀ w, Calls Try.prog 15 #[.string S0, .int .u64 l1, .int .u32 e1] w fun e' w' => e' = .returned (.tuple #[.agg #[.int .u64 l3, .int .u32 e3, .int .i64 k3, .int .u64 v3, .int .u64 d3, .string i3, .string a3], .bool o2]) ∧ Below w.heap.size w w')) :
    Calls Try.prog 5 #[.agg #[.int .u64 l0, .int .u32 e0, .int .i64 k0, .int .u64 v0, .int .u64 d0, .string i0, .string a0], .agg #[.int .u64 l1, .int .u32 e1, .int .i64 k1, .int .u64 v1, .int .u64 d1, .string i1, .string a1], .int .u8 p] w fun e' w' => e' = .returned (.bool true) ∧ Below w.heap.size w w' := by
  have hki : (k : Int) ≤ 128 := by omega
  have hk0' : (0 : Int) ≤ k := by omega
  have hz0i : (S0.size : Int) = 128 := by omega
  have hz1i : ((zeroTo 128).size : Int) = 128 := by rw [zeroTo_size]; rfl
  have hqq := eq_self S0
  have C0 := Lib.hid (fun w => lawcut_any l0 e0 k0 v0 d0 i0 a0 w hi0 ha0)
  have C1 := Lib.hid (fun w => lawcut_any l1 e1 k1 v1 d1 i1 a1 w hi1 ha1)
  generalize cut80 i0 = x0 at *
  generalize cut80 a0 = y0 at *
  generalize cut80 i1 = x1 at *
  generalize cut80 a1 = y1 at *
  have G0 := layF l0 e0 k0 v0 d0 i0 a0 25 w
  have B := below1 w (.cells #[.int .u64 l0, .int .u32 e0, .int .i64 k0, .int .u64 v0, .int .u64 d0, .string i0, .string a0] 25)
  have G1 := layF l1 e1 k1 v1 d1 i1 a1 25 (w.alloc (.cells #[.int .u64 l0, .int .u32 e0, .int .i64 k0, .int .u64 v0, .int .u64 d0, .string i0, .string a0] 25))
  rw [show (w.alloc (.cells #[.int .u64 l0, .int .u32 e0, .int .i64 k0, .int .u64 v0, .int .u64 d0, .string i0, .string a0] 25)).heap.size = w.heap.size + 1 by simp] at G1
  have hb := below1 (w.alloc (.cells #[.int .u64 l0, .int .u32 e0, .int .i64 k0, .int .u64 v0, .int .u64 d0, .string i0, .string a0] 25)) (.cells #[.int .u64 l1, .int .u32 e1, .int .i64 k1, .int .u64 v1, .int .u64 d1, .string i1, .string a1] 25)
  replace G0 := G0.later hb
  replace B := Wd.Ge.trans B hb
  clear hb
  clear hi0 ha0 hi1 ha1
  go_enter Try.func5, Try.ntmps5
  go_wp2_with fail
  refine (C0.out _).mono ?_
  rintro e' w1 ⟨rfl, hb⟩
  replace G0 := G0.later hb
  replace G1 := G1.later hb
  replace B := Wd.Ge.trans B hb
  clear hb
  obtain ⟨cg, c0, c1, c2, c3, c4, c5, c6⟩ := G0.L
  have z0 := G0.F 0 (by omega)
  have z1 := G0.F 1 (by omega)
  have z2 := G0.F 2 (by omega)
  have z3 := G0.F 3 (by omega)
  have z4 := G0.F 4 (by omega)
  have z5 := G0.F 5 (by omega)
  have z6 := G0.F 6 (by omega)
  go_upto_region 2 with fail
  clear c0 c1 c2 c3 c4 c5 c6 cg
  clear z0 z1 z2 z3 z4 z5 z6
  replace G1 := G1.away (B := w.heap.size) (l := l0) (e := e0) (k := k0) (v := v0) (d := d0) (i := x0) (a := y0) (by omega)
  replace G0 := G0.put (l := l0) (e := e0) (k := k0) (v := v0) (d := d0) (i := x0) (a := y0)
  replace B := below7 l0 e0 k0 v0 d0 x0 y0 B (Nat.le_refl w.heap.size)
  generalize (((((((w1.setCell ⟨w.heap.size, 0, none⟩ (.int .u64 l0)).setCell ⟨w.heap.size, 1, none⟩ (.int .u32 e0)).setCell ⟨w.heap.size, 2, none⟩ (.int .i64 k0)).setCell ⟨w.heap.size, 3, none⟩ (.int .u64 v0)).setCell ⟨w.heap.size, 4, none⟩ (.int .u64 d0)).setCell ⟨w.heap.size, 5, none⟩ (.string x0)).setCell ⟨w.heap.size, 6, none⟩ (.string y0)) = w2 at *
  obtain ⟨cg, c0, c1, c2, c3, c4, c5, c6⟩ := G1.L
  have z0 := G1.F 0 (by omega)
  have z1 := G1.F 1 (by omega)
  have z2 := G1.F 2 (by omega)
  have z3 := G1.F 3 (by omega)
  have z4 := G1.F 4 (by omega)
  have z5 := G1.F 5 (by omega)
  have z6 := G1.F 6 (by omega)
  go_wp2_with fail
  refine (C1.out _).mono ?_
  rintro e' w3 ⟨rfl, hb⟩
  clear c0 c1 c2 c3 c4 c5 c6 cg
  clear z0 z1 z2 z3 z4 z5 z6
  replace G0 := G0.later hb
  replace G1 := G1.later hb
  replace B := Wd.Ge.trans B hb
  clear hb
  obtain ⟨cg, c0, c1, c2, c3, c4, c5, c6⟩ := G1.L
  have z0 := G1.F 0 (by omega)
  have z1 := G1.F 1 (by omega)
  have z2 := G1.F 2 (by omega)
  have z3 := G1.F 3 (by omega)
  have z4 := G1.F 4 (by omega)
  have z5 := G1.F 5 (by omega)
  have z6 := G1.F 6 (by omega)
  go_upto_region 3 with fail
  clear c0 c1 c2 c3 c4 c5 c6 cg
  clear z0 z1 z2 z3 z4 z5 z6
  replace G0 := G0.away (B := (w.heap.size + 1)) (l := l1) (e := e1) (k := k1) (v := v1) (d := d1) (i := x1) (a := y1) (by omega)
  replace G1 := G1.put (l := l1) (e := e1) (k := k1) (v := v1) (d := d1) (i := x1) (a := y1)
  replace B := below7 l1 e1 k1 v1 d1 x1 y1 B (show w.heap.size ≤ (w.heap.size + 1) by omega)
  generalize (((((((w3.setCell ⟨(w.heap.size + 1), 0, none⟩ (.int .u64 l1)).setCell ⟨(w.heap.size + 1), 1, none⟩ (.int .u32 e1)).setCell ⟨(w.heap.size + 1), 2, none⟩ (.int .i64 k1)).setCell ⟨(w.heap.size + 1), 3, none⟩ (.int .u64 v1)).setCell ⟨(w.heap.size + 1), 4, none⟩ (.int .u64 d1)).setCell ⟨(w.heap.size + 1), 5, none⟩ (.string x1)).setCell ⟨(w.heap.size + 1), 6, none⟩ (.string y1)) = w4 at *
  clear C0 C1
  obtain ⟨cg, c0, c1, c2, c3, c4, c5, c6⟩ := G0.L
  go_wp2_with fail
  refine (E0.out _).mono ?_
  rintro e' w5 ⟨rfl, hb⟩
  clear c0 c1 c2 c3 c4 c5 c6 cg
  replace G0 := G0.later hb
  replace G1 := G1.later hb
  replace B := Wd.Ge.trans B hb
  clear hb
  obtain ⟨cg, c0, c1, c2, c3, c4, c5, c6⟩ := G1.L
  go_wp2_with fail
  refine (E1.out _).mono ?_
  rintro e' w6 ⟨rfl, hb⟩
  clear c0 c1 c2 c3 c4 c5 c6 cg
  replace G0 := G0.later hb
  replace G1 := G1.later hb
  replace B := Wd.Ge.trans B hb
  clear hb
  go_wp2_with fail
  refine (zero_any _).mono ?_
  rintro e' w6' ⟨rfl, rfl⟩
  have hzz := zeroTo_size 128
  have h8 : InvT w l0 e0 k0 v0 d0 x0 y0 l1 e1 k1 v1 d1 x1 y1 w6 := ⟨B, G0.L, G1.L⟩
  go_upto_region 10 with fail
  have hne : Nonempty (In (InvT w l0 e0 k0 v0 d0 x0 y0 l1 e1 k1 v1 d1 x1 y1)) := ⟨⟨_, h8⟩⟩
  refine region_class (InvT w l0 e0 k0 v0 d0 x0 y0 l1 e1 k1 v1 d1 x1 y1) (by kernel_rfl) (by kernel_rfl) h8.drawn ?_
  repeat (go_big_quiet_step (fail))
  refine wpQuiet_nil ?_
  rintro _ ⟨jj, rfl⟩
  obtain ⟨w8, hw8⟩ := jj
  clear G0 G1 B h8 hne
  obtain ⟨B, L0, L1⟩ := hw8
  simp only
  obtain ⟨cg, c0, c1, c2, c3, c4, c5, c6⟩ := L0
  have L0 : LiesR w8 w.heap.size l0 e0 k0 v0 d0 x0 y0 := ⟨cg, c0, c1, c2, c3, c4, c5, c6⟩
  go_wp2_with fail
  refine (N0.out _).mono ?_
  rintro e' w9 ⟨rfl, hb⟩
  clear c0 c1 c2 c3 c4 c5 c6 cg
  replace L0 := L0.later hb
  replace L1 := L1.later hb
  replace B := Wd.Ge.trans B hb
  clear hb
  have M2 := layR l0 e0 k0 v0 d0 x0 y0 25 w9
  have hb := below1 w9 (.cells #[.int .u64 l0, .int .u32 e0, .int .i64 k0, .int .u64 v0, .int .u64 d0, .string x0, .string y0] 25)
  replace L0 := L0.later hb
  replace L1 := L1.later hb
  replace B := Wd.Ge.trans B hb
  clear hb
  go_upto_region 12 with fail
  generalize w9.alloc (.cells #[.int .u64 l0, .int .u32 e0, .int .i64 k0, .int .u64 v0, .int .u64 d0, .string x0, .string y0] 25) = w10 at *
  generalize w9.heap.size = b13 at *
  obtain ⟨cg, c0, c1, c2, c3, c4, c5, c6⟩ := L0
  obtain ⟨mg, m0, m1, m2, m3, m4, m5, m6⟩ := L1
  have L1 : LiesR w10 (w.heap.size + 1) l1 e1 k1 v1 d1 x1 y1 := ⟨mg, m0, m1, m2, m3, m4, m5, m6⟩
  obtain ⟨ng, n0, n1, n2, n3, n4, n5, n6⟩ := M2
  go_wp2_with fail
  refine (N1.out _).mono ?_
  rintro e' w11 ⟨rfl, hb⟩
  clear c0 c1 c2 c3 c4 c5 c6 cg
  clear m0 m1 m2 m3 m4 m5 m6 mg n0 n1 n2 n3 n4 n5 n6 ng L1
  replace B := Wd.Ge.trans B hb
  clear hb
  have M3 := layR l3 e3 k3 v3 d3 i3 a3 25 w11
  have hb := below1 w11 (.cells #[.int .u64 l3, .int .u32 e3, .int .i64 k3, .int .u64 v3, .int .u64 d3, .string i3, .string a3] 25)
  replace B := Wd.Ge.trans B hb
  clear hb
  go_upto_region 15 with fail
  generalize w11.alloc (.cells #[.int .u64 l3, .int .u32 e3, .int .i64 k3, .int .u64 v3, .int .u64 d3, .string i3, .string a3] 25) = w12 at *
  generalize w11.heap.size = b15 at *
  go_wp2_with fail
  refine (fixed_any _).mono ?_
  rintro e' w7 ⟨rfl, hb⟩
  go_wp2_with fail
  go_ret
  exact ⟨rfl, Wd.Ge.trans B hb⟩

set_option maxRecDepth 100000 in
set_option maxHeartbeats 8000000 in
theorem mf0a (l0 e0 k0 v0 d0 : Int) (i0 a0 : ByteArray) (l1 e1 k1 v1 d1 : Int) (i1 a1 : ByteArray) (p : Int) (w : World) (hl0 : 0 ≤ l0 ∧ l0 < 18446744073709551616) (he0 : 0 ≤ e0 ∧ e0 < 4294967296) (hk0 : -9223372036854775808 ≤ k0 ∧ k0 ≤ 9223372036854775807) (hv0 : 0 ≤ v0 ∧ v0 < 18446744073709551616) (hd0 : 0 ≤ d0 ∧ d0 < 18446744073709551616) (hi0 : i0.size ≤ maxLen) (ha0 : a0.size ≤ maxLen) (hl1 : 0 ≤ l1 ∧ l1 < 18446744073709551616) (he1 : 0 ≤ e1 ∧ e1 < 4294967296) (hk1 : -9223372036854775808 ≤ k1 ∧ k1 ≤ 9223372036854775807) (hv1 : 0 ≤ v1 ∧ v1 < 18446744073709551616) (hd1 : 0 ≤ d1 ∧ d1 < 18446744073709551616) (hi1 : i1.size ≤ maxLen) (ha1 : a1.size ≤ maxLen) (S0 S1 : ByteArray) (hz0 : S0.size = 128) (hz1 : S1.size = 128) (E0 : Hid (∀ w, Calls Try.prog 10 #[.agg #[.int .u64 l0, .int .u32 e0, .int .i64 k0, .int .u64 v0, .int .u64 d0, .string (cut80 i0), .string (cut80 a0)]] w fun e' w' => e' = .returned (.tuple #[.string S0, .int .i64 0]) ∧ Below w.heap.size w w')) (E1 : Hid (∀ w, Calls Try.prog 10 #[.agg #[.int .u64 l1, .int .u32 e1, .int .i64 k1, .int .u64 v1, .int .u64 d1, .string (cut80 i1), .string (cut80 a1)]] w fun e' w' => e' = .returned (.tuple #[.string S1, .int .i64 0]) ∧ Below w.heap.size w w')) (hpl : (l0 == l1) = false) (k : Nat) (hk : k ≤ 128) (hp : p % 129 = (k : Int)) (hp0 : 0 ≤ p) (hp1 : p < 256) (M : ByteArray) (hM : S0.extract 0 k ++ S1.extract k 128 = M) (hu : ¬ 9223372036854775807 < (S0.extract 0 k).size + (S1.extract k 128).size) (l2 e2 k2 v2 d2 : Int) (i2 a2 : ByteArray) (hq : (M.toList == S0.toList) = false) (N0 : Hid (∀ w, Calls Try.prog 15 #[.string M, .int .u64 l0, .int .u32 e0] w fun e' w' => e' = .returned (.tuple #[.agg #[.int .u64 l2, .int .u32 e2, .int .i64 k2, .int .u64 v2, .int .u64 d2, .string i2, .string a2], .bool false]) ∧ Below w.heap.size w w')) (o2 : Bool) (l3 e3 k3 v3 d3 : Int) (i3 a3 : ByteArray) (hq2 : (M.toList == S1.toList) = o2) (N1 : Hid (∀ w, Calls Try.prog 15 #[.string M, .int .u64 l1, .int .u32 e1] w fun e' w' => e' = .returned (.tuple #[.agg #[.int .u64 l3, .int .u32 e3, .int .i64 k3, .int .u64 v3, .int .u64 d3, .string i3, .string a3], .bool o2]) ∧ Below w.heap.size w w')) :
    Calls Try.prog 5 #[.agg #[.int .u64 l0, .int .u32 e0, .int .i64 k0, .int .u64 v0, .int .u64 d0, .string i0, .string a0], .agg #[.int .u64 l1, .int .u32 e1, .int .i64 k1, .int .u64 v1, .int .u64 d1, .string i1, .string a1], .int .u8 p] w fun e' w' => e' = .returned (.bool true) ∧ Below w.heap.size w w' := by
  have hki : (k : Int) ≤ 128 := by omega
  have hk0' : (0 : Int) ≤ k := by omega
  have hz0i : (S0.size : Int) = 128 := by omega
  have hz1i : (S1.size : Int) = 128 := by omega
  have C0 := Lib.hid (fun w => lawcut_any l0 e0 k0 v0 d0 i0 a0 w hi0 ha0)
  have C1 := Lib.hid (fun w => lawcut_any l1 e1 k1 v1 d1 i1 a1 w hi1 ha1)
  generalize cut80 i0 = x0 at *
  generalize cut80 a0 = y0 at *
  generalize cut80 i1 = x1 at *
  generalize cut80 a1 = y1 at *
  have G0 := layF l0 e0 k0 v0 d0 i0 a0 25 w
  have B := below1 w (.cells #[.int .u64 l0, .int .u32 e0, .int .i64 k0, .int .u64 v0, .int .u64 d0, .string i0, .string a0] 25)
  have G1 := layF l1 e1 k1 v1 d1 i1 a1 25 (w.alloc (.cells #[.int .u64 l0, .int .u32 e0, .int .i64 k0, .int .u64 v0, .int .u64 d0, .string i0, .string a0] 25))
  rw [show (w.alloc (.cells #[.int .u64 l0, .int .u32 e0, .int .i64 k0, .int .u64 v0, .int .u64 d0, .string i0, .string a0] 25)).heap.size = w.heap.size + 1 by simp] at G1
  have hb := below1 (w.alloc (.cells #[.int .u64 l0, .int .u32 e0, .int .i64 k0, .int .u64 v0, .int .u64 d0, .string i0, .string a0] 25)) (.cells #[.int .u64 l1, .int .u32 e1, .int .i64 k1, .int .u64 v1, .int .u64 d1, .string i1, .string a1] 25)
  replace G0 := G0.later hb
  replace B := Wd.Ge.trans B hb
  clear hb
  clear hi0 ha0 hi1 ha1
  go_enter Try.func5, Try.ntmps5
  go_wp2_with fail
  refine (C0.out _).mono ?_
  rintro e' w1 ⟨rfl, hb⟩
  replace G0 := G0.later hb
  replace G1 := G1.later hb
  replace B := Wd.Ge.trans B hb
  clear hb
  obtain ⟨cg, c0, c1, c2, c3, c4, c5, c6⟩ := G0.L
  have z0 := G0.F 0 (by omega)
  have z1 := G0.F 1 (by omega)
  have z2 := G0.F 2 (by omega)
  have z3 := G0.F 3 (by omega)
  have z4 := G0.F 4 (by omega)
  have z5 := G0.F 5 (by omega)
  have z6 := G0.F 6 (by omega)
  go_upto_region 2 with fail
  clear c0 c1 c2 c3 c4 c5 c6 cg
  clear z0 z1 z2 z3 z4 z5 z6
  replace G1 := G1.away (B := w.heap.size) (l := l0) (e := e0) (k := k0) (v := v0) (d := d0) (i := x0) (a := y0) (by omega)
  replace G0 := G0.put (l := l0) (e := e0) (k := k0) (v := v0) (d := d0) (i := x0) (a := y0)
  replace B := below7 l0 e0 k0 v0 d0 x0 y0 B (Nat.le_refl w.heap.size)
  generalize (((((((w1.setCell ⟨w.heap.size, 0, none⟩ (.int .u64 l0)).setCell ⟨w.heap.size, 1, none⟩ (.int .u32 e0)).setCell ⟨w.heap.size, 2, none⟩ (.int .i64 k0)).setCell ⟨w.heap.size, 3, none⟩ (.int .u64 v0)).setCell ⟨w.heap.size, 4, none⟩ (.int .u64 d0)).setCell ⟨w.heap.size, 5, none⟩ (.string x0)).setCell ⟨w.heap.size, 6, none⟩ (.string y0)) = w2 at *
  obtain ⟨cg, c0, c1, c2, c3, c4, c5, c6⟩ := G1.L
  have z0 := G1.F 0 (by omega)
  have z1 := G1.F 1 (by omega)
  have z2 := G1.F 2 (by omega)
  have z3 := G1.F 3 (by omega)
  have z4 := G1.F 4 (by omega)
  have z5 := G1.F 5 (by omega)
  have z6 := G1.F 6 (by omega)
  go_wp2_with fail
  refine (C1.out _).mono ?_
  rintro e' w3 ⟨rfl, hb⟩
  clear c0 c1 c2 c3 c4 c5 c6 cg
  clear z0 z1 z2 z3 z4 z5 z6
  replace G0 := G0.later hb
  replace G1 := G1.later hb
  replace B := Wd.Ge.trans B hb
  clear hb
  obtain ⟨cg, c0, c1, c2, c3, c4, c5, c6⟩ := G1.L
  have z0 := G1.F 0 (by omega)
  have z1 := G1.F 1 (by omega)
  have z2 := G1.F 2 (by omega)
  have z3 := G1.F 3 (by omega)
  have z4 := G1.F 4 (by omega)
  have z5 := G1.F 5 (by omega)
  have z6 := G1.F 6 (by omega)
  go_upto_region 3 with fail
  clear c0 c1 c2 c3 c4 c5 c6 cg
  clear z0 z1 z2 z3 z4 z5 z6
  replace G0 := G0.away (B := (w.heap.size + 1)) (l := l1) (e := e1) (k := k1) (v := v1) (d := d1) (i := x1) (a := y1) (by omega)
  replace G1 := G1.put (l := l1) (e := e1) (k := k1) (v := v1) (d := d1) (i := x1) (a := y1)
  replace B := below7 l1 e1 k1 v1 d1 x1 y1 B (show w.heap.size ≤ (w.heap.size + 1) by omega)
  generalize (((((((w3.setCell ⟨(w.heap.size + 1), 0, none⟩ (.int .u64 l1)).setCell ⟨(w.heap.size + 1), 1, none⟩ (.int .u32 e1)).setCell ⟨(w.heap.size + 1), 2, none⟩ (.int .i64 k1)).setCell ⟨(w.heap.size + 1), 3, none⟩ (.int .u64 v1)).setCell ⟨(w.heap.size + 1), 4, none⟩ (.int .u64 d1)).setCell ⟨(w.heap.size + 1), 5, none⟩ (.string x1)).setCell ⟨(w.heap.size + 1), 6, none⟩ (.string y1)) = w4 at *
  clear C0 C1
  obtain ⟨cg, c0, c1, c2, c3, c4, c5, c6⟩ := G0.L
  go_wp2_with fail
  refine (E0.out _).mono ?_
  rintro e' w5 ⟨rfl, hb⟩
  clear c0 c1 c2 c3 c4 c5 c6 cg
  replace G0 := G0.later hb
  replace G1 := G1.later hb
  replace B := Wd.Ge.trans B hb
  clear hb
  obtain ⟨cg, c0, c1, c2, c3, c4, c5, c6⟩ := G1.L
  go_wp2_with fail
  refine (E1.out _).mono ?_
  rintro e' w6 ⟨rfl, hb⟩
  clear c0 c1 c2 c3 c4 c5 c6 cg
  replace G0 := G0.later hb
  replace G1 := G1.later hb
  replace B := Wd.Ge.trans B hb
  clear hb
  have h8 : InvT w l0 e0 k0 v0 d0 x0 y0 l1 e1 k1 v1 d1 x1 y1 w6 := ⟨B, G0.L, G1.L⟩
  obtain ⟨cg, c0, c1, c2, c3, c4, c5, c6⟩ := G0.L
  obtain ⟨mg, m0, m1, m2, m3, m4, m5, m6⟩ := G1.L
  go_upto_region 10 with fail
  clear c0 c1 c2 c3 c4 c5 c6 cg
  clear m0 m1 m2 m3 m4 m5 m6 mg
  have hne : Nonempty (In (InvT w l0 e0 k0 v0 d0 x0 y0 l1 e1 k1 v1 d1 x1 y1)) := ⟨⟨_, h8⟩⟩
  refine region_class (InvT w l0 e0 k0 v0 d0 x0 y0 l1 e1 k1 v1 d1 x1 y1) (by kernel_rfl) (by kernel_rfl) h8.drawn ?_
  repeat (go_big_quiet_step (fail))
  refine wpQuiet_nil ?_
  rintro _ ⟨jj, rfl⟩
  obtain ⟨w8, hw8⟩ := jj
  clear G0 G1 B h8 hne
  obtain ⟨B, L0, L1⟩ := hw8
  simp only
  obtain ⟨cg, c0, c1, c2, c3, c4, c5, c6⟩ := L0
  have L0 : LiesR w8 w.heap.size l0 e0 k0 v0 d0 x0 y0 := ⟨cg, c0, c1, c2, c3, c4, c5, c6⟩
  go_wp2_with fail
  refine (N0.out _).mono ?_
  rintro e' w9 ⟨rfl, hb⟩
  clear c0 c1 c2 c3 c4 c5 c6 cg
  replace L0 := L0.later hb
  replace L1 := L1.later hb
  replace B := Wd.Ge.trans B hb
  clear hb
  have M2 := layR l2 e2 k2 v2 d2 i2 a2 25 w9
  have hb := below1 w9 (.cells #[.int .u64 l2, .int .u32 e2, .int .i64 k2, .int .u64 v2, .int .u64 d2, .string i2, .string a2] 25)
  replace L0 := L0.later hb
  replace L1 := L1.later hb
  replace B := Wd.Ge.trans B hb
  clear hb
  go_upto_region 12 with fail
  generalize w9.alloc (.cells #[.int .u64 l2, .int .u32 e2, .int .i64 k2, .int .u64 v2, .int .u64 d2, .string i2, .string a2] 25) = w10 at *
  generalize w9.heap.size = b13 at *
  obtain ⟨cg, c0, c1, c2, c3, c4, c5, c6⟩ := L0
  obtain ⟨mg, m0, m1, m2, m3, m4, m5, m6⟩ := L1
  have L1 : LiesR w10 (w.heap.size + 1) l1 e1 k1 v1 d1 x1 y1 := ⟨mg, m0, m1, m2, m3, m4, m5, m6⟩
  obtain ⟨ng, n0, n1, n2, n3, n4, n5, n6⟩ := M2
  go_wp2_with fail
  refine (N1.out _).mono ?_
  rintro e' w11 ⟨rfl, hb⟩
  clear c0 c1 c2 c3 c4 c5 c6 cg
  clear m0 m1 m2 m3 m4 m5 m6 mg n0 n1 n2 n3 n4 n5 n6 ng L1
  replace B := Wd.Ge.trans B hb
  clear hb
  have M3 := layR l3 e3 k3 v3 d3 i3 a3 25 w11
  have hb := below1 w11 (.cells #[.int .u64 l3, .int .u32 e3, .int .i64 k3, .int .u64 v3, .int .u64 d3, .string i3, .string a3] 25)
  replace B := Wd.Ge.trans B hb
  clear hb
  go_upto_region 15 with fail
  generalize w11.alloc (.cells #[.int .u64 l3, .int .u32 e3, .int .i64 k3, .int .u64 v3, .int .u64 d3, .string i3, .string a3] 25) = w12 at *
  generalize w11.heap.size = b15 at *
  go_wp2_with fail
  refine (fixed_any _).mono ?_
  rintro e' w7 ⟨rfl, hb⟩
  go_wp2_with fail
  go_ret
  exact ⟨rfl, Wd.Ge.trans B hb⟩

set_option maxRecDepth 100000 in
set_option maxHeartbeats 8000000 in
theorem mt0a (l0 e0 k0 v0 d0 : Int) (i0 a0 : ByteArray) (l1 e1 k1 v1 d1 : Int) (i1 a1 : ByteArray) (p : Int) (w : World) (hl0 : 0 ≤ l0 ∧ l0 < 18446744073709551616) (he0 : 0 ≤ e0 ∧ e0 < 4294967296) (hk0 : -9223372036854775808 ≤ k0 ∧ k0 ≤ 9223372036854775807) (hv0 : 0 ≤ v0 ∧ v0 < 18446744073709551616) (hd0 : 0 ≤ d0 ∧ d0 < 18446744073709551616) (hi0 : i0.size ≤ maxLen) (ha0 : a0.size ≤ maxLen) (hl1 : 0 ≤ l1 ∧ l1 < 18446744073709551616) (he1 : 0 ≤ e1 ∧ e1 < 4294967296) (hk1 : -9223372036854775808 ≤ k1 ∧ k1 ≤ 9223372036854775807) (hv1 : 0 ≤ v1 ∧ v1 < 18446744073709551616) (hd1 : 0 ≤ d1 ∧ d1 < 18446744073709551616) (hi1 : i1.size ≤ maxLen) (ha1 : a1.size ≤ maxLen) (S0 S1 : ByteArray) (hz0 : S0.size = 128) (hz1 : S1.size = 128) (E0 : Hid (∀ w, Calls Try.prog 10 #[.agg #[.int .u64 l0, .int .u32 e0, .int .i64 k0, .int .u64 v0, .int .u64 d0, .string (cut80 i0), .string (cut80 a0)]] w fun e' w' => e' = .returned (.tuple #[.string S0, .int .i64 0]) ∧ Below w.heap.size w w')) (E1 : Hid (∀ w, Calls Try.prog 10 #[.agg #[.int .u64 l1, .int .u32 e1, .int .i64 k1, .int .u64 v1, .int .u64 d1, .string (cut80 i1), .string (cut80 a1)]] w fun e' w' => e' = .returned (.tuple #[.string S1, .int .i64 0]) ∧ Below w.heap.size w w')) (hpl : (l0 == l1) = false) (k : Nat) (hk : k ≤ 128) (hp : p % 129 = (k : Int)) (hp0 : 0 ≤ p) (hp1 : p < 256) (hM : S0.extract 0 k ++ S1.extract k 128 = S0) (hu : ¬ 9223372036854775807 < (S0.extract 0 k).size + (S1.extract k 128).size) (N0 : Hid (∀ w, Calls Try.prog 15 #[.string S0, .int .u64 l0, .int .u32 e0] w fun e' w' => e' = .returned (.tuple #[.agg #[.int .u64 l0, .int .u32 e0, .int .i64 k0, .int .u64 v0, .int .u64 d0, .string (cut80 i0), .string (cut80 a0)], .bool true]) ∧ Below w.heap.size w w')) (o2 : Bool) (l3 e3 k3 v3 d3 : Int) (i3 a3 : ByteArray) (hq2 : (S0.toList == S1.toList) = o2) (N1 : Hid (∀ w, Calls Try.prog 15 #[.string S0, .int .u64 l1, .int .u32 e1] w fun e' w' => e' = .returned (.tuple #[.agg #[.int .u64 l3, .int .u32 e3, .int .i64 k3, .int .u64 v3, .int .u64 d3, .string i3, .string a3], .bool o2]) ∧ Below w.heap.size w w')) :
    Calls Try.prog 5 #[.agg #[.int .u64 l0, .int .u32 e0, .int .i64 k0, .int .u64 v0, .int .u64 d0, .string i0, .string a0], .agg #[.int .u64 l1, .int .u32 e1, .int .i64 k1, .int .u64 v1, .int .u64 d1, .string i1, .string a1], .int .u8 p] w fun e' w' => e' = .returned (.bool true) ∧ Below w.heap.size w w' := by
  have hki : (k : Int) ≤ 128 := by omega
  have hk0' : (0 : Int) ≤ k := by omega
  have hz0i : (S0.size : Int) = 128 := by omega
  have hz1i : (S1.size : Int) = 128 := by omega
  have hqq := eq_self S0
  have C0 := Lib.hid (fun w => lawcut_any l0 e0 k0 v0 d0 i0 a0 w hi0 ha0)
  have C1 := Lib.hid (fun w => lawcut_any l1 e1 k1 v1 d1 i1 a1 w hi1 ha1)
  generalize cut80 i0 = x0 at *
  generalize cut80 a0 = y0 at *
  generalize cut80 i1 = x1 at *
  generalize cut80 a1 = y1 at *
  have G0 := layF l0 e0 k0 v0 d0 i0 a0 25 w
  have B := below1 w (.cells #[.int .u64 l0, .int .u32 e0, .int .i64 k0, .int .u64 v0, .int .u64 d0, .string i0, .string a0] 25)
  have G1 := layF l1 e1 k1 v1 d1 i1 a1 25 (w.alloc (.cells #[.int .u64 l0, .int .u32 e0, .int .i64 k0, .int .u64 v0, .int .u64 d0, .string i0, .string a0] 25))
  rw [show (w.alloc (.cells #[.int .u64 l0, .int .u32 e0, .int .i64 k0, .int .u64 v0, .int .u64 d0, .string i0, .string a0] 25)).heap.size = w.heap.size + 1 by simp] at G1
  have hb := below1 (w.alloc (.cells #[.int .u64 l0, .int .u32 e0, .int .i64 k0, .int .u64 v0, .int .u64 d0, .string i0, .string a0] 25)) (.cells #[.int .u64 l1, .int .u32 e1, .int .i64 k1, .int .u64 v1, .int .u64 d1, .string i1, .string a1] 25)
  replace G0 := G0.later hb
  replace B := Wd.Ge.trans B hb
  clear hb
  clear hi0 ha0 hi1 ha1
  go_enter Try.func5, Try.ntmps5
  go_wp2_with fail
  refine (C0.out _).mono ?_
  rintro e' w1 ⟨rfl, hb⟩
  replace G0 := G0.later hb
  replace G1 := G1.later hb
  replace B := Wd.Ge.trans B hb
  clear hb
  obtain ⟨cg, c0, c1, c2, c3, c4, c5, c6⟩ := G0.L
  have z0 := G0.F 0 (by omega)
  have z1 := G0.F 1 (by omega)
  have z2 := G0.F 2 (by omega)
  have z3 := G0.F 3 (by omega)
  have z4 := G0.F 4 (by omega)
  have z5 := G0.F 5 (by omega)
  have z6 := G0.F 6 (by omega)
  go_upto_region 2 with fail
  clear c0 c1 c2 c3 c4 c5 c6 cg
  clear z0 z1 z2 z3 z4 z5 z6
  replace G1 := G1.away (B := w.heap.size) (l := l0) (e := e0) (k := k0) (v := v0) (d := d0) (i := x0) (a := y0) (by omega)
  replace G0 := G0.put (l := l0) (e := e0) (k := k0) (v := v0) (d := d0) (i := x0) (a := y0)
  replace B := below7 l0 e0 k0 v0 d0 x0 y0 B (Nat.le_refl w.heap.size)
  generalize (((((((w1.setCell ⟨w.heap.size, 0, none⟩ (.int .u64 l0)).setCell ⟨w.heap.size, 1, none⟩ (.int .u32 e0)).setCell ⟨w.heap.size, 2, none⟩ (.int .i64 k0)).setCell ⟨w.heap.size, 3, none⟩ (.int .u64 v0)).setCell ⟨w.heap.size, 4, none⟩ (.int .u64 d0)).setCell ⟨w.heap.size, 5, none⟩ (.string x0)).setCell ⟨w.heap.size, 6, none⟩ (.string y0)) = w2 at *
  obtain ⟨cg, c0, c1, c2, c3, c4, c5, c6⟩ := G1.L
  have z0 := G1.F 0 (by omega)
  have z1 := G1.F 1 (by omega)
  have z2 := G1.F 2 (by omega)
  have z3 := G1.F 3 (by omega)
  have z4 := G1.F 4 (by omega)
  have z5 := G1.F 5 (by omega)
  have z6 := G1.F 6 (by omega)
  go_wp2_with fail
  refine (C1.out _).mono ?_
  rintro e' w3 ⟨rfl, hb⟩
  clear c0 c1 c2 c3 c4 c5 c6 cg
  clear z0 z1 z2 z3 z4 z5 z6
  replace G0 := G0.later hb
  replace G1 := G1.later hb
  replace B := Wd.Ge.trans B hb
  clear hb
  obtain ⟨cg, c0, c1, c2, c3, c4, c5, c6⟩ := G1.L
  have z0 := G1.F 0 (by omega)
  have z1 := G1.F 1 (by omega)
  have z2 := G1.F 2 (by omega)
  have z3 := G1.F 3 (by omega)
  have z4 := G1.F 4 (by omega)
  have z5 := G1.F 5 (by omega)
  have z6 := G1.F 6 (by omega)
  go_upto_region 3 with fail
  clear c0 c1 c2 c3 c4 c5 c6 cg
  clear z0 z1 z2 z3 z4 z5 z6
  replace G0 := G0.away (B := (w.heap.size + 1)) (l := l1) (e := e1) (k := k1) (v := v1) (d := d1) (i := x1) (a := y1) (by omega)
  replace G1 := G1.put (l := l1) (e := e1) (k := k1) (v := v1) (d := d1) (i := x1) (a := y1)
  replace B := below7 l1 e1 k1 v1 d1 x1 y1 B (show w.heap.size ≤ (w.heap.size + 1) by omega)
  generalize (((((((w3.setCell ⟨(w.heap.size + 1), 0, none⟩ (.int .u64 l1)).setCell ⟨(w.heap.size + 1), 1, none⟩ (.int .u32 e1)).setCell ⟨(w.heap.size + 1), 2, none⟩ (.int .i64 k1)).setCell ⟨(w.heap.size + 1), 3, none⟩ (.int .u64 v1)).setCell ⟨(w.heap.size + 1), 4, none⟩ (.int .u64 d1)).setCell ⟨(w.heap.size + 1), 5, none⟩ (.string x1)).setCell ⟨(w.heap.size + 1), 6, none⟩ (.string y1)) = w4 at *
  clear C0 C1
  obtain ⟨cg, c0, c1, c2, c3, c4, c5, c6⟩ := G0.L
  go_wp2_with fail
  refine (E0.out _).mono ?_
  rintro e' w5 ⟨rfl, hb⟩
  clear c0 c1 c2 c3 c4 c5 c6 cg
  replace G0 := G0.later hb
  replace G1 := G1.later hb
  replace B := Wd.Ge.trans B hb
  clear hb
  obtain ⟨cg, c0, c1, c2, c3, c4, c5, c6⟩ := G1.L
  go_wp2_with fail
  refine (E1.out _).mono ?_
  rintro e' w6 ⟨rfl, hb⟩
  clear c0 c1 c2 c3 c4 c5 c6 cg
  replace G0 := G0.later hb
  replace G1 := G1.later hb
  replace B := Wd.Ge.trans B hb
  clear hb
  have h8 : InvT w l0 e0 k0 v0 d0 x0 y0 l1 e1 k1 v1 d1 x1 y1 w6 := ⟨B, G0.L, G1.L⟩
  obtain ⟨cg, c0, c1, c2, c3, c4, c5, c6⟩ := G0.L
  obtain ⟨mg, m0, m1, m2, m3, m4, m5, m6⟩ := G1.L
  go_upto_region 10 with fail
  clear c0 c1 c2 c3 c4 c5 c6 cg
  clear m0 m1 m2 m3 m4 m5 m6 mg
  have hne : Nonempty (In (InvT w l0 e0 k0 v0 d0 x0 y0 l1 e1 k1 v1 d1 x1 y1)) := ⟨⟨_, h8⟩⟩
  refine region_class (InvT w l0 e0 k0 v0 d0 x0 y0 l1 e1 k1 v1 d1 x1 y1) (by kernel_rfl) (by kernel_rfl) h8.drawn ?_
  repeat (go_big_quiet_step (fail))
  refine wpQuiet_nil ?_
  rintro _ ⟨jj, rfl⟩
  obtain ⟨w8, hw8⟩ := jj
  clear G0 G1 B h8 hne
  obtain ⟨B, L0, L1⟩ := hw8
  simp only
  obtain ⟨cg, c0, c1, c2, c3, c4, c5, c6⟩ := L0
  have L0 : LiesR w8 w.heap.size l0 e0 k0 v0 d0 x0 y0 := ⟨cg, c0, c1, c2, c3, c4, c5, c6⟩
  go_wp2_with fail
  refine (N0.out _).mono ?_
  rintro e' w9 ⟨rfl, hb⟩
  clear c0 c1 c2 c3 c4 c5 c6 cg
  replace L0 := L0.later hb
  replace L1 := L1.later hb
  replace B := Wd.Ge.trans B hb
  clear hb
  have M2 := layR l0 e0 k0 v0 d0 x0 y0 25 w9
  have hb := below1 w9 (.cells #[.int .u64 l0, .int .u32 e0, .int .i64 k0, .int .u64 v0, .int .u64 d0, .string x0, .string y0] 25)
  replace L0 := L0.later hb
  replace L1 := L1.later hb
  replace B := Wd.Ge.trans B hb
  clear hb
  go_upto_region 12 with fail
  generalize w9.alloc (.cells #[.int .u64 l0, .int .u32 e0, .int .i64 k0, .int .u64 v0, .int .u64 d0, .string x0, .string y0] 25) = w10 at *
  generalize w9.heap.size = b13 at *
  obtain ⟨cg, c0, c1, c2, c3, c4, c5, c6⟩ := L0
  obtain ⟨mg, m0, m1, m2, m3, m4, m5, m6⟩ := L1
  have L1 : LiesR w10 (w.heap.size + 1) l1 e1 k1 v1 d1 x1 y1 := ⟨mg, m0, m1, m2, m3, m4, m5, m6⟩
  obtain ⟨ng, n0, n1, n2, n3, n4, n5, n6⟩ := M2
  go_wp2_with fail
  refine (N1.out _).mono ?_
  rintro e' w11 ⟨rfl, hb⟩
  clear c0 c1 c2 c3 c4 c5 c6 cg
  clear m0 m1 m2 m3 m4 m5 m6 mg n0 n1 n2 n3 n4 n5 n6 ng L1
  replace B := Wd.Ge.trans B hb
  clear hb
  have M3 := layR l3 e3 k3 v3 d3 i3 a3 25 w11
  have hb := below1 w11 (.cells #[.int .u64 l3, .int .u32 e3, .int .i64 k3, .int .u64 v3, .int .u64 d3, .string i3, .string a3] 25)
  replace B := Wd.Ge.trans B hb
  clear hb
  go_upto_region 15 with fail
  generalize w11.alloc (.cells #[.int .u64 l3, .int .u32 e3, .int .i64 k3, .int .u64 v3, .int .u64 d3, .string i3, .string a3] 25) = w12 at *
  generalize w11.heap.size = b15 at *
  go_wp2_with fail
  refine (fixed_any _).mono ?_
  rintro e' w7 ⟨rfl, hb⟩
  go_wp2_with fail
  go_ret
  exact ⟨rfl, Wd.Ge.trans B hb⟩

set_option maxRecDepth 100000 in
set_option maxHeartbeats 8000000 in
theorem mf0b (l0 e0 k0 v0 d0 : Int) (i0 a0 : ByteArray) (l1 e1 k1 v1 d1 : Int) (i1 a1 : ByteArray) (p : Int) (w : World) (hl0 : 0 ≤ l0 ∧ l0 < 18446744073709551616) (he0 : 0 ≤ e0 ∧ e0 < 4294967296) (hk0 : -9223372036854775808 ≤ k0 ∧ k0 ≤ 9223372036854775807) (hv0 : 0 ≤ v0 ∧ v0 < 18446744073709551616) (hd0 : 0 ≤ d0 ∧ d0 < 18446744073709551616) (hi0 : i0.size ≤ maxLen) (ha0 : a0.size ≤ maxLen) (hl1 : 0 ≤ l1 ∧ l1 < 18446744073709551616) (he1 : 0 ≤ e1 ∧ e1 < 4294967296) (hk1 : -9223372036854775808 ≤ k1 ∧ k1 ≤ 9223372036854775807) (hv1 : 0 ≤ v1 ∧ v1 < 18446744073709551616) (hd1 : 0 ≤ d1 ∧ d1 < 18446744073709551616) (hi1 : i1.size ≤ maxLen) (ha1 : a1.size ≤ maxLen) (S0 S1 : ByteArray) (hz0 : S0.size = 128) (hz1 : S1.size = 128) (E0 : Hid (∀ w, Calls Try.prog 10 #[.agg #[.int .u64 l0, .int .u32 e0, .int .i64 k0, .int .u64 v0, .int .u64 d0, .string (cut80 i0), .string (cut80 a0)]] w fun e' w' => e' = .returned (.tuple #[.string S0, .int .i64 0]) ∧ Below w.heap.size w w')) (E1 : Hid (∀ w, Calls Try.prog 10 #[.agg #[.int .u64 l1, .int .u32 e1, .int .i64 k1, .int .u64 v1, .int .u64 d1, .string (cut80 i1), .string (cut80 a1)]] w fun e' w' => e' = .returned (.tuple #[.string S1, .int .i64 0]) ∧ Below w.heap.size w w')) (hpl : Hid (l0 = l1)) (hpe : (e0 == e1) = false) (k : Nat) (hk : k ≤ 128) (hp : p % 129 = (k : Int)) (hp0 : 0 ≤ p) (hp1 : p < 256) (M : ByteArray) (hM : S0.extract 0 k ++ S1.extract k 128 = M) (hu : ¬ 9223372036854775807 < (S0.extract 0 k).size + (S1.extract k 128).size) (l2 e2 k2 v2 d2 : Int) (i2 a2 : ByteArray) (hq : (M.toList == S0.toList) = false) (N0 : Hid (∀ w, Calls Try.prog 15 #[.string M, .int .u64 l0, .int .u32 e0] w fun e' w' => e' = .returned (.tuple #[.agg #[.int .u64 l2, .int .u32 e2, .int .i64 k2, .int .u64 v2, .int .u64 d2, .string i2, .string a2], .bool false]) ∧ Below w.heap.size w w')) (o2 : Bool) (l3 e3 k3 v3 d3 : Int) (i3 a3 : ByteArray) (hq2 : (M.toList == S1.toList) = o2) (N1 : Hid (∀ w, Calls Try.prog 15 #[.string M, .int .u64 l1, .int .u32 e1] w fun e' w' => e' = .returned (.tuple #[.agg #[.int .u64 l3, .int .u32 e3, .int .i64 k3, .int .u64 v3, .int .u64 d3, .string i3, .string a3], .bool o2]) ∧ Below w.heap.size w w')) :
    Calls Try.prog 5 #[.agg #[.int .u64 l0, .int .u32 e0, .int .i64 k0, .int .u64 v0, .int .u64 d0, .string i0, .string a0], .agg #[.int .u64 l1, .int .u32 e1, .int .i64 k1, .int .u64 v1, .int .u64 d1, .string i1, .string a1], .int .u8 p] w fun e' w' => e' = .returned (.bool true) ∧ Below w.heap.size w w' := by
  have hki : (k : Int) ≤ 128 := by omega
  have hk0' : (0 : Int) ≤ k := by omega
  have hz0i : (S0.size : Int) = 128 := by omega
  have hz1i : (S1.size : Int) = 128 := by omega
  have C0 := Lib.hid (fun w => lawcut_any l0 e0 k0 v0 d0 i0 a0 w hi0 ha0)
  have C1 := Lib.hid (fun w => lawcut_any l1 e1 k1 v1 d1 i1 a1 w hi1 ha1)
  generalize cut80 i0 = x0 at *
  generalize cut80 a0 = y0 at *
  generalize cut80 i1 = x1 at *
  generalize cut80 a1 = y1 at *
  have G0 := layF l0 e0 k0 v0 d0 i0 a0 25 w
  have B := below1 w (.cells #[.int .u64 l0, .int .u32 e0, .int .i64 k0, .int .u64 v0, .int .u64 d0, .string i0, .string a0] 25)
  have G1 := layF l1 e1 k1 v1 d1 i1 a1 25 (w.alloc (.cells #[.int .u64 l0, .int .u32 e0, .int .i64 k0, .int .u64 v0, .int .u64 d0, .string i0, .string a0] 25))
  rw [show (w.alloc (.cells #[.int .u64 l0, .int .u32 e0, .int .i64 k0, .int .u64 v0, .int .u64 d0, .string i0, .string a0] 25)).heap.size = w.heap.size + 1 by simp] at G1
  have hb := below1 (w.alloc (.cells #[.int .u64 l0, .int .u32 e0, .int .i64 k0, .int .u64 v0, .int .u64 d0, .string i0, .string a0] 25)) (.cells #[.int .u64 l1, .int .u32 e1, .int .i64 k1, .int .u64 v1, .int .u64 d1, .string i1, .string a1] 25)
  replace G0 := G0.later hb
  replace B := Wd.Ge.trans B hb
  clear hb
  clear hi0 ha0 hi1 ha1
  go_enter Try.func5, Try.ntmps5
  go_wp2_with fail
  refine (C0.out _).mono ?_
  rintro e' w1 ⟨rfl, hb⟩
  replace G0 := G0.later hb
  replace G1 := G1.later hb
  replace B := Wd.Ge.trans B hb
  clear hb
  obtain ⟨cg, c0, c1, c2, c3, c4, c5, c6⟩ := G0.L
  have z0 := G0.F 0 (by omega)
  have z1 := G0.F 1 (by omega)
  have z2 := G0.F 2 (by omega)
  have z3 := G0.F 3 (by omega)
  have z4 := G0.F 4 (by omega)
  have z5 := G0.F 5 (by omega)
  have z6 := G0.F 6 (by omega)
  go_upto_region 2 with fail
  clear c0 c1 c2 c3 c4 c5 c6 cg
  clear z0 z1 z2 z3 z4 z5 z6
  replace G1 := G1.away (B := w.heap.size) (l := l0) (e := e0) (k := k0) (v := v0) (d := d0) (i := x0) (a := y0) (by omega)
  replace G0 := G0.put (l := l0) (e := e0) (k := k0) (v := v0) (d := d0) (i := x0) (a := y0)
  replace B := below7 l0 e0 k0 v0 d0 x0 y0 B (Nat.le_refl w.heap.size)
  generalize (((((((w1.setCell ⟨w.heap.size, 0, none⟩ (.int .u64 l0)).setCell ⟨w.heap.size, 1, none⟩ (.int .u32 e0)).setCell ⟨w.heap.size, 2, none⟩ (.int .i64 k0)).setCell ⟨w.heap.size, 3, none⟩ (.int .u64 v0)).setCell ⟨w.heap.size, 4, none⟩ (.int .u64 d0)).setCell ⟨w.heap.size, 5, none⟩ (.string x0)).setCell ⟨w.heap.size, 6, none⟩ (.string y0)) = w2 at *
  obtain ⟨cg, c0, c1, c2, c3, c4, c5, c6⟩ := G1.L
  have z0 := G1.F 0 (by omega)
  have z1 := G1.F 1 (by omega)
  have z2 := G1.F 2 (by omega)
  have z3 := G1.F 3 (by omega)
  have z4 := G1.F 4 (by omega)
  have z5 := G1.F 5 (by omega)
  have z6 := G1.F 6 (by omega)
  go_wp2_with fail
  refine (C1.out _).mono ?_
  rintro e' w3 ⟨rfl, hb⟩
  clear c0 c1 c2 c3 c4 c5 c6 cg
  clear z0 z1 z2 z3 z4 z5 z6
  replace G0 := G0.later hb
  replace G1 := G1.later hb
  replace B := Wd.Ge.trans B hb
  clear hb
  obtain ⟨cg, c0, c1, c2, c3, c4, c5, c6⟩ := G1.L
  have z0 := G1.F 0 (by omega)
  have z1 := G1.F 1 (by omega)
  have z2 := G1.F 2 (by omega)
  have z3 := G1.F 3 (by omega)
  have z4 := G1.F 4 (by omega)
  have z5 := G1.F 5 (by omega)
  have z6 := G1.F 6 (by omega)
  go_upto_region 3 with fail
  clear c0 c1 c2 c3 c4 c5 c6 cg
  clear z0 z1 z2 z3 z4 z5 z6
  replace G0 := G0.away (B := (w.heap.size + 1)) (l := l1) (e := e1) (k := k1) (v := v1) (d := d1) (i := x1) (a := y1) (by omega)
  replace G1 := G1.put (l := l1) (e := e1) (k := k1) (v := v1) (d := d1) (i := x1) (a := y1)
  replace B := below7 l1 e1 k1 v1 d1 x1 y1 B (show w.heap.size ≤ (w.heap.size + 1) by omega)
  generalize (((((((w3.setCell ⟨(w.heap.size + 1), 0, none⟩ (.int .u64 l1)).setCell ⟨(w.heap.size + 1), 1, none⟩ (.int .u32 e1)).setCell ⟨(w.heap.size + 1), 2, none⟩ (.int .i64 k1)).setCell ⟨(w.heap.size + 1), 3, none⟩ (.int .u64 v1)).setCell ⟨(w.heap.size + 1), 4, none⟩ (.int .u64 d1)).setCell ⟨(w.heap.size + 1), 5, none⟩ (.string x1)).setCell ⟨(w.heap.size + 1), 6, none⟩ (.string y1)) = w4 at *
  clear C0 C1
  obtain ⟨cg, c0, c1, c2, c3, c4, c5, c6⟩ := G0.L
  go_wp2_with fail
  refine (E0.out _).mono ?_
  rintro e' w5 ⟨rfl, hb⟩
  clear c0 c1 c2 c3 c4 c5 c6 cg
  replace G0 := G0.later hb
  replace G1 := G1.later hb
  replace B := Wd.Ge.trans B hb
  clear hb
  obtain ⟨cg, c0, c1, c2, c3, c4, c5, c6⟩ := G1.L
  go_wp2_with fail
  refine (E1.out _).mono ?_
  rintro e' w6 ⟨rfl, hb⟩
  clear c0 c1 c2 c3 c4 c5 c6 cg
  replace G0 := G0.later hb
  replace G1 := G1.later hb
  replace B := Wd.Ge.trans B hb
  clear hb
  have hpl2 := hpl.out
  subst hpl2
  clear hpl
  have h8 : InvT w l0 e0 k0 v0 d0 x0 y0 l0 e1 k1 v1 d1 x1 y1 w6 := ⟨B, G0.L, G1.L⟩
  obtain ⟨cg, c0, c1, c2, c3, c4, c5, c6⟩ := G0.L
  obtain ⟨mg, m0, m1, m2, m3, m4, m5, m6⟩ := G1.L
  go_upto_region 10 with fail
  clear c0 c1 c2 c3 c4 c5 c6 cg
  clear m0 m1 m2 m3 m4 m5 m6 mg
  have hne : Nonempty (In (InvT w l0 e0 k0 v0 d0 x0 y0 l0 e1 k1 v1 d1 x1 y1)) := ⟨⟨_, h8⟩⟩
  refine region_class (InvT w l0 e0 k0 v0 d0 x0 y0 l0 e1 k1 v1 d1 x1 y1) (by kernel_rfl) (by kernel_rfl) h8.drawn ?_
  repeat (go_big_quiet_step (fail))
  refine wpQuiet_nil ?_
  rintro _ ⟨jj, rfl⟩
  obtain ⟨w8, hw8⟩ := jj
  clear G0 G1 B h8 hne
  obtain ⟨B, L0, L1⟩ := hw8
  simp only
  obtain ⟨cg, c0, c1, c2, c3, c4, c5, c6⟩ := L0
  have L0 : LiesR w8 w.heap.size l0 e0 k0 v0 d0 x0 y0 := ⟨cg, c0, c1, c2, c3, c4, c5, c6⟩
  go_wp2_with fail
  refine (N0.out _).mono ?_
  rintro e' w9 ⟨rfl, hb⟩
  clear c0 c1 c2 c3 c4 c5 c6 cg
  replace L0 := L0.later hb
  replace L1 := L1.later hb
  replace B := Wd.Ge.trans B hb
  clear hb
  have M2 := layR l2 e2 k2 v2 d2 i2 a2 25 w9
  have hb := below1 w9 (.cells #[.int .u64 l2, .int .u32 e2, .int .i64 k2, .int .u64 v2, .int .u64 d2, .string i2, .string a2] 25)
  replace L0 := L0.later hb
  replace L1 := L1.later hb
  replace B := Wd.Ge.trans B hb
  clear hb
  go_upto_region 12 with fail
  generalize w9.alloc (.cells #[.int .u64 l2, .int .u32 e2, .int .i64 k2, .int .u64 v2, .int .u64 d2, .string i2, .string a2] 25) = w10 at *
  generalize w9.heap.size = b13 at *
  obtain ⟨cg, c0, c1, c2, c3, c4, c5, c6⟩ := L0
  obtain ⟨mg, m0, m1, m2, m3, m4, m5, m6⟩ := L1
  have L1 : LiesR w10 (w.heap.size + 1) l0 e1 k1 v1 d1 x1 y1 := ⟨mg, m0, m1, m2, m3, m4, m5, m6⟩
  obtain ⟨ng, n0, n1, n2, n3, n4, n5, n6⟩ := M2
  go_wp2_with fail
  refine (N1.out _).mono ?_
  rintro e' w11 ⟨rfl, hb⟩
  clear c0 c1 c2 c3 c4 c5 c6 cg
  clear m0 m1 m2 m3 m4 m5 m6 mg n0 n1 n2 n3 n4 n5 n6 ng L1
  replace B := Wd.Ge.trans B hb
  clear hb
  have M3 := layR l3 e3 k3 v3 d3 i3 a3 25 w11
  have hb := below1 w11 (.cells #[.int .u64 l3, .int .u32 e3, .int .i64 k3, .int .u64 v3, .int .u64 d3, .string i3, .string a3] 25)
  replace B := Wd.Ge.trans B hb
  clear hb
  go_upto_region 15 with fail
  generalize w11.alloc (.cells #[.int .u64 l3, .int .u32 e3, .int .i64 k3, .int .u64 v3, .int .u64 d3, .string i3, .string a3] 25) = w12 at *
  generalize w11.heap.size = b15 at *
  go_wp2_with fail
  refine (fixed_any _).mono ?_
  rintro e' w7 ⟨rfl, hb⟩
  go_wp2_with fail
  go_ret
  exact ⟨rfl, Wd.Ge.trans B hb⟩

set_option maxRecDepth 100000 in
set_option maxHeartbeats 8000000 in
theorem mt0b (l0 e0 k0 v0 d0 : Int) (i0 a0 : ByteArray) (l1 e1 k1 v1 d1 : Int) (i1 a1 : ByteArray) (p : Int) (w : World) (hl0 : 0 ≤ l0 ∧ l0 < 18446744073709551616) (he0 : 0 ≤ e0 ∧ e0 < 4294967296) (hk0 : -9223372036854775808 ≤ k0 ∧ k0 ≤ 9223372036854775807) (hv0 : 0 ≤ v0 ∧ v0 < 18446744073709551616) (hd0 : 0 ≤ d0 ∧ d0 < 18446744073709551616) (hi0 : i0.size ≤ maxLen) (ha0 : a0.size ≤ maxLen) (hl1 : 0 ≤ l1 ∧ l1 < 18446744073709551616) (he1 : 0 ≤ e1 ∧ e1 < 4294967296) (hk1 : -9223372036854775808 ≤ k1 ∧ k1 ≤ 9223372036854775807) (hv1 : 0 ≤ v1 ∧ v1 < 18446744073709551616) (hd1 : 0 ≤ d1 ∧ d1 < 18446744073709551616) (hi1 : i1.size ≤ maxLen) (ha1 : a1.size ≤ maxLen) (S0 S1 : ByteArray) (hz0 : S0.size = 128) (hz1 : S1.size = 128) (E0 : Hid (∀ w, Calls Try.prog 10 #[.agg #[.int .u64 l0, .int .u32 e0, .int .i64 k0, .int .u64 v0, .int .u64 d0, .string (cut80 i0), .string (cut80 a0)]] w fun e' w' => e' = .returned (.tuple #[.string S0, .int .i64 0]) ∧ Below w.heap.size w w')) (E1 : Hid (∀ w, Calls Try.prog 10 #[.agg #[.int .u64 l1, .int .u32 e1, .int .i64 k1, .int .u64 v1, .int .u64 d1, .string (cut80 i1), .string (cut80 a1)]] w fun e' w' => e' = .returned (.tuple #[.string S1, .int .i64 0]) ∧ Below w.heap.size w w')) (hpl : Hid (l0 = l1)) (hpe : (e0 == e1) = false) (k : Nat) (hk : k ≤ 128) (hp : p % 129 = (k : Int)) (hp0 : 0 ≤ p) (hp1 : p < 256) (hM : S0.extract 0 k ++ S1.extract k 128 = S0) (hu : ¬ 9223372036854775807 < (S0.extract 0 k).size + (S1.extract k 128).size) (N0 : Hid (∀ w, Calls Try.prog 15 #[.string S0, .int .u64 l0, .int .u32 e0] w fun e' w' => e' = .returned (.tuple #[.agg #[.int .u64 l0, .int .u32 e0, .int .i64 k0, .int .u64 v0, .int .u64 d0, .string (cut80 i0), .string (cut80 a0)], .bool true]) ∧ Below w.heap.size w w')) (o2 : Bool) (l3 e3 k3 v3 d3 : Int) (i3 a3 : ByteArray) (hq2 : (S0.toList == S1.toList) = o2) (N1 : Hid (∀ w, Calls Try.prog 15 #[.string S0, .int .u64 l1, .int .u32 e1] w fun e' w' => e' = .returned (.tuple #[.agg #[.int .u64 l3, .int .u32 e3, .int .i64 k3, .int .u64 v3, .int .u64 d3, .string i3, .string a3], .bool o2]) ∧ Below w.heap.size w w')) :
    Calls Try.prog 5 #[.agg #[.int .u64 l0, .int .u32 e0, .int .i64 k0, .int .u64 v0, .int .u64 d0, .string i0, .string a0], .agg #[.int .u64 l1, .int .u32 e1, .int .i64 k1, .int .u64 v1, .int .u64 d1, .string i1, .string a1], .int .u8 p] w fun e' w' => e' = .returned (.bool true) ∧ Below w.heap.size w w' := by
  have hki : (k : Int) ≤ 128 := by omega
  have hk0' : (0 : Int) ≤ k := by omega
  have hz0i : (S0.size : Int) = 128 := by omega
  have hz1i : (S1.size : Int) = 128 := by omega
  have hqq := eq_self S0
  have C0 := Lib.hid (fun w => lawcut_any l0 e0 k0 v0 d0 i0 a0 w hi0 ha0)
  have C1 := Lib.hid (fun w => lawcut_any l1 e1 k1 v1 d1 i1 a1 w hi1 ha1)
  generalize cut80 i0 = x0 at *
  generalize cut80 a0 = y0 at *
  generalize cut80 i1 = x1 at *
  generalize cut80 a1 = y1 at *
  have G0 := layF l0 e0 k0 v0 d0 i0 a0 25 w
  have B := below1 w (.cells #[.int .u64 l0, .int .u32 e0, .int .i64 k0, .int .u64 v0, .int .u64 d0, .string i0, .string a0] 25)
  have G1 := layF l1 e1 k1 v1 d1 i1 a1 25 (w.alloc (.cells #[.int .u64 l0, .int .u32 e0, .int .i64 k0, .int .u64 v0, .int .u64 d0, .string i0, .string a0] 25))
  rw [show (w.alloc (.cells #[.int .u64 l0, .int .u32 e0, .int .i64 k0, .int .u64 v0, .int .u64 d0, .string i0, .string a0] 25)).heap.size = w.heap.size + 1 by simp] at G1
  have hb := below1 (w.alloc (.cells #[.int .u64 l0, .int .u32 e0, .int .i64 k0, .int .u64 v0, .int .u64 d0, .string i0, .string a0] 25)) (.cells #[.int .u64 l1, .int .u32 e1, .int .i64 k1, .int .u64 v1, .int .u64 d1, .string i1, .string a1] 25)
  replace G0 := G0.later hb
  replace B := Wd.Ge.trans B hb
  clear hb
  clear hi0 ha0 hi1 ha1
  go_enter Try.func5, Try.ntmps5
  go_wp2_with fail
  refine (C0.out _).mono ?_
  rintro e' w1 ⟨rfl, hb⟩
  replace G0 := G0.later hb
  replace G1 := G1.later hb
  replace B := Wd.Ge.trans B hb
  clear hb
  obtain ⟨cg, c0, c1, c2, c3, c4, c5, c6⟩ := G0.L
  have z0 := G0.F 0 (by omega)
  have z1 := G0.F 1 (by omega)
  have z2 := G0.F 2 (by omega)
  have z3 := G0.F 3 (by omega)
  have z4 := G0.F 4 (by omega)
  have z5 := G0.F 5 (by omega)
  have z6 := G0.F 6 (by omega)
  go_upto_region 2 with fail
  clear c0 c1 c2 c3 c4 c5 c6 cg
  clear z0 z1 z2 z3 z4 z5 z6
  replace G1 := G1.away (B := w.heap.size) (l := l0) (e := e0) (k := k0) (v := v0) (d := d0) (i := x0) (a := y0) (by omega)
  replace G0 := G0.put (l := l0) (e := e0) (k := k0) (v := v0) (d := d0) (i := x0) (a := y0)
  replace B := below7 l0 e0 k0 v0 d0 x0 y0 B (Nat.le_refl w.heap.size)
  generalize (((((((w1.setCell ⟨w.heap.size, 0, none⟩ (.int .u64 l0)).setCell ⟨w.heap.size, 1, none⟩ (.int .u32 e0)).setCell ⟨w.heap.size, 2, none⟩ (.int .i64 k0)).setCell ⟨w.heap.size, 3, none⟩ (.int .u64 v0)).setCell ⟨w.heap.size, 4, none⟩ (.int .u64 d0)).setCell ⟨w.heap.size, 5, none⟩ (.string x0)).setCell ⟨w.heap.size, 6, none⟩ (.string y0)) = w2 at *
  obtain ⟨cg, c0, c1, c2, c3, c4, c5, c6⟩ := G1.L
  have z0 := G1.F 0 (by omega)
  have z1 := G1.F 1 (by omega)
  have z2 := G1.F 2 (by omega)
  have z3 := G1.F 3 (by omega)
  have z4 := G1.F 4 (by omega)
  have z5 := G1.F 5 (by omega)
  have z6 := G1.F 6 (by omega)
  go_wp2_with fail
  refine (C1.out _).mono ?_
  rintro e' w3 ⟨rfl, hb⟩
  clear c0 c1 c2 c3 c4 c5 c6 cg
  clear z0 z1 z2 z3 z4 z5 z6
  replace G0 := G0.later hb
  replace G1 := G1.later hb
  replace B := Wd.Ge.trans B hb
  clear hb
  obtain ⟨cg, c0, c1, c2, c3, c4, c5, c6⟩ := G1.L
  have z0 := G1.F 0 (by omega)
  have z1 := G1.F 1 (by omega)
  have z2 := G1.F 2 (by omega)
  have z3 := G1.F 3 (by omega)
  have z4 := G1.F 4 (by omega)
  have z5 := G1.F 5 (by omega)
  have z6 := G1.F 6 (by omega)
  go_upto_region 3 with fail
  clear c0 c1 c2 c3 c4 c5 c6 cg
  clear z0 z1 z2 z3 z4 z5 z6
  replace G0 := G0.away (B := (w.heap.size + 1)) (l := l1) (e := e1) (k := k1) (v := v1) (d := d1) (i := x1) (a := y1) (by omega)
  replace G1 := G1.put (l := l1) (e := e1) (k := k1) (v := v1) (d := d1) (i := x1) (a := y1)
  replace B := below7 l1 e1 k1 v1 d1 x1 y1 B (show w.heap.size ≤ (w.heap.size + 1) by omega)
  generalize (((((((w3.setCell ⟨(w.heap.size + 1), 0, none⟩ (.int .u64 l1)).setCell ⟨(w.heap.size + 1), 1, none⟩ (.int .u32 e1)).setCell ⟨(w.heap.size + 1), 2, none⟩ (.int .i64 k1)).setCell ⟨(w.heap.size + 1), 3, none⟩ (.int .u64 v1)).setCell ⟨(w.heap.size + 1), 4, none⟩ (.int .u64 d1)).setCell ⟨(w.heap.size + 1), 5, none⟩ (.string x1)).setCell ⟨(w.heap.size + 1), 6, none⟩ (.string y1)) = w4 at *
  clear C0 C1
  obtain ⟨cg, c0, c1, c2, c3, c4, c5, c6⟩ := G0.L
  go_wp2_with fail
  refine (E0.out _).mono ?_
  rintro e' w5 ⟨rfl, hb⟩
  clear c0 c1 c2 c3 c4 c5 c6 cg
  replace G0 := G0.later hb
  replace G1 := G1.later hb
  replace B := Wd.Ge.trans B hb
  clear hb
  obtain ⟨cg, c0, c1, c2, c3, c4, c5, c6⟩ := G1.L
  go_wp2_with fail
  refine (E1.out _).mono ?_
  rintro e' w6 ⟨rfl, hb⟩
  clear c0 c1 c2 c3 c4 c5 c6 cg
  replace G0 := G0.later hb
  replace G1 := G1.later hb
  replace B := Wd.Ge.trans B hb
  clear hb
  have hpl2 := hpl.out
  subst hpl2
  clear hpl
  have h8 : InvT w l0 e0 k0 v0 d0 x0 y0 l0 e1 k1 v1 d1 x1 y1 w6 := ⟨B, G0.L, G1.L⟩
  obtain ⟨cg, c0, c1, c2, c3, c4, c5, c6⟩ := G0.L
  obtain ⟨mg, m0, m1, m2, m3, m4, m5, m6⟩ := G1.L
  go_upto_region 10 with fail
  clear c0 c1 c2 c3 c4 c5 c6 cg
  clear m0 m1 m2 m3 m4 m5 m6 mg
  have hne : Nonempty (In (InvT w l0 e0 k0 v0 d0 x0 y0 l0 e1 k1 v1 d1 x1 y1)) := ⟨⟨_, h8⟩⟩
  refine region_class (InvT w l0 e0 k0 v0 d0 x0 y0 l0 e1 k1 v1 d1 x1 y1) (by kernel_rfl) (by kernel_rfl) h8.drawn ?_
  repeat (go_big_quiet_step (fail))
  refine wpQuiet_nil ?_
  rintro _ ⟨jj, rfl⟩
  obtain ⟨w8, hw8⟩ := jj
  clear G0 G1 B h8 hne
  obtain ⟨B, L0, L1⟩ := hw8
  simp only
  obtain ⟨cg, c0, c1, c2, c3, c4, c5, c6⟩ := L0
  have L0 : LiesR w8 w.heap.size l0 e0 k0 v0 d0 x0 y0 := ⟨cg, c0, c1, c2, c3, c4, c5, c6⟩
  go_wp2_with fail
  refine (N0.out _).mono ?_
  rintro e' w9 ⟨rfl, hb⟩
  clear c0 c1 c2 c3 c4 c5 c6 cg
  replace L0 := L0.later hb
  replace L1 := L1.later hb
  replace B := Wd.Ge.trans B hb
  clear hb
  have M2 := layR l0 e0 k0 v0 d0 x0 y0 25 w9
  have hb := below1 w9 (.cells #[.int .u64 l0, .int .u32 e0, .int .i64 k0, .int .u64 v0, .int .u64 d0, .string x0, .string y0] 25)
  replace L0 := L0.later hb
  replace L1 := L1.later hb
  replace B := Wd.Ge.trans B hb
  clear hb
  go_upto_region 12 with fail
  generalize w9.alloc (.cells #[.int .u64 l0, .int .u32 e0, .int .i64 k0, .int .u64 v0, .int .u64 d0, .string x0, .string y0] 25) = w10 at *
  generalize w9.heap.size = b13 at *
  obtain ⟨cg, c0, c1, c2, c3, c4, c5, c6⟩ := L0
  obtain ⟨mg, m0, m1, m2, m3, m4, m5, m6⟩ := L1
  have L1 : LiesR w10 (w.heap.size + 1) l0 e1 k1 v1 d1 x1 y1 := ⟨mg, m0, m1, m2, m3, m4, m5, m6⟩
  obtain ⟨ng, n0, n1, n2, n3, n4, n5, n6⟩ := M2
  go_wp2_with fail
  refine (N1.out _).mono ?_
  rintro e' w11 ⟨rfl, hb⟩
  clear c0 c1 c2 c3 c4 c5 c6 cg
  clear m0 m1 m2 m3 m4 m5 m6 mg n0 n1 n2 n3 n4 n5 n6 ng L1
  replace B := Wd.Ge.trans B hb
  clear hb
  have M3 := layR l3 e3 k3 v3 d3 i3 a3 25 w11
  have hb := below1 w11 (.cells #[.int .u64 l3, .int .u32 e3, .int .i64 k3, .int .u64 v3, .int .u64 d3, .string i3, .string a3] 25)
  replace B := Wd.Ge.trans B hb
  clear hb
  go_upto_region 15 with fail
  generalize w11.alloc (.cells #[.int .u64 l3, .int .u32 e3, .int .i64 k3, .int .u64 v3, .int .u64 d3, .string i3, .string a3] 25) = w12 at *
  generalize w11.heap.size = b15 at *
  go_wp2_with fail
  refine (fixed_any _).mono ?_
  rintro e' w7 ⟨rfl, hb⟩
  go_wp2_with fail
  go_ret
  exact ⟨rfl, Wd.Ge.trans B hb⟩


/-- The first question: yes, just if the mixed sector is the first one's. -/
theorem first_is {r : Rec} (S M : ByteArray) (t : List UInt8) (k : Nat) (hk : k ≤ 128) (hf : Fits r) (h : okR r = true) (hS : secL r = S.data.toList) (ht : t.length = 128) (hne : t.drop 116 ≠ stampL r) (hM : M.data.toList = S.data.toList.take k ++ t.drop k)
    {o : Bool} {l e kk v d : Int} {i a : ByteArray} (ni : NextIs M r.l r.e o l e kk v d i a) : o = true ↔ M = S := by
  rw [ni.iff]
  constructor
  · rintro ⟨h1, h2, h3⟩
    obtain ⟨ho, hq⟩ := (isSec_iff _).1 h1
    have := torn_first t k hk hf h ht hne (cutR_fits _) ho (by rw [hq, hM, hS]) h2 h3
    exact bytes_ext (by rw [← hq, this, hS])
  · rintro rfl
    rw [← hS, isSec_secL hf h, cutR_secL hf h]
    exact ⟨rfl, rfl, rfl⟩
/-- The other question: yes, just if it is the other one's. -/
theorem other_is {r p : Rec} (S S1 M : ByteArray) (k : Nat) (hk : k ≤ 128) (hf : Fits r) (h : okR r = true) (hS : secL r = S.data.toList) (hfp : Fits p) (hp : okR p = true) (hS1 : secL p = S1.data.toList) (hne : stampL r ≠ stampL p) (hM : M.data.toList = S.data.toList.take k ++ S1.data.toList.drop k)
    {o : Bool} {l e kk v d : Int} {i a : ByteArray} (ni : NextIs M p.l p.e o l e kk v d i a) : o = true ↔ M = S1 := by
  rw [ni.iff]
  constructor
  · rintro ⟨h1, h2, h3⟩
    obtain ⟨ho, hq⟩ := (isSec_iff _).1 h1
    have := torn_other k hk hf h hfp hp hne (cutR_fits _) ho (by rw [hq, hM, hS, hS1]) h2 h3
    exact bytes_ext (by rw [← hq, this, hS1])
  · rintro rfl
    rw [← hS1, isSec_secL hfp hp, cutR_secL hfp hp]
    exact ⟨rfl, rfl, rfl⟩
theorem beq_is {M S : ByteArray} {o : Bool} (h : o = true ↔ M = S) : (M.toList == S.toList) = o := by
  rw [Bool.eq_iff_iff, h, beq_iff_eq, toList_data, toList_data]
  exact ⟨bytes_ext, fun h => by rw [h]⟩
theorem recs_eq {l e k v d l' e' k' v' d' : Int} {i a i' a' : ByteArray} (h : (⟨l, e, k, v, d, i.data.toList, a.data.toList⟩ : Rec) = ⟨l', e', k', v', d', i'.data.toList, a'.data.toList⟩) : l = l' ∧ e = e' ∧ k = k' ∧ v = v' ∧ d = d' ∧ i = i' ∧ a = a' := by
  simp only [Rec.mk.injEq] at h
  obtain ⟨q0, q1, q2, q3, q4, q5, q6⟩ := h
  exact ⟨q0, q1, q2, q3, q4, bytes_ext q5, bytes_ext q6⟩

theorem walk (l0 e0 k0 v0 d0 : Int) (i0 a0 : ByteArray) (l1 e1 k1 v1 d1 : Int) (i1 a1 : ByteArray) (p : Int) (w : World) (hl0 : 0 ≤ l0 ∧ l0 < 18446744073709551616) (he0 : 0 ≤ e0 ∧ e0 < 4294967296) (hk0 : -9223372036854775808 ≤ k0 ∧ k0 ≤ 9223372036854775807) (hv0 : 0 ≤ v0 ∧ v0 < 18446744073709551616) (hd0 : 0 ≤ d0 ∧ d0 < 18446744073709551616) (hi0 : i0.size ≤ maxLen) (ha0 : a0.size ≤ maxLen) (hl1 : 0 ≤ l1 ∧ l1 < 18446744073709551616) (he1 : 0 ≤ e1 ∧ e1 < 4294967296) (hk1 : -9223372036854775808 ≤ k1 ∧ k1 ≤ 9223372036854775807) (hv1 : 0 ≤ v1 ∧ v1 < 18446744073709551616) (hd1 : 0 ≤ d1 ∧ d1 < 18446744073709551616) (hi1 : i1.size ≤ maxLen) (ha1 : a1.size ≤ maxLen) (w2 : (Lit.int .u8 p).wf = true) :
    Calls Try.prog 5 #[.agg #[.int .u64 l0, .int .u32 e0, .int .i64 k0, .int .u64 v0, .int .u64 d0, .string i0, .string a0], .agg #[.int .u64 l1, .int .u32 e1, .int .i64 k1, .int .u64 v1, .int .u64 d1, .string i1, .string a1], .int .u8 p] w fun e' w' => e' = .returned (.bool true) ∧ Below w.heap.size w w' := by
  obtain ⟨hp0, hp1⟩ := u8_of w2
  have f0 : Fits ⟨l0, e0, k0, v0, d0, (cut80 i0).data.toList, (cut80 a0).data.toList⟩ := okA (i := cut80 i0) (a := cut80 a0) hl0 he0 hv0 hd0
  have f1 : Fits ⟨l1, e1, k1, v1, d1, (cut80 i1).data.toList, (cut80 a1).data.toList⟩ := okA (i := cut80 i1) (a := cut80 a1) hl1 he1 hv1 hd1
  obtain ⟨S1, HS1⟩ : ∃ S : ByteArray, secL ⟨l1, e1, k1, v1, d1, (cut80 i1).data.toList, (cut80 a1).data.toList⟩ = S.data.toList := ⟨⟨(secL ⟨l1, e1, k1, v1, d1, (cut80 i1).data.toList, (cut80 a1).data.toList⟩).toArray⟩, by simp⟩
  cases h0 : okR ⟨l0, e0, k0, v0, d0, (cut80 i0).data.toList, (cut80 a0).data.toList⟩
  · have E0 := Lib.hid (fun w => encode_no l0 e0 k0 v0 d0 (cut80 i0) (cut80 a0) w (cut80_le i0) (cut80_le a0) h0)
    cases h1 : okR ⟨l1, e1, k1, v1, d1, (cut80 i1).data.toList, (cut80 a1).data.toList⟩
    · have E1 := Lib.hid (fun w => encode_no l1 e1 k1 v1 d1 (cut80 i1) (cut80 a1) w (cut80_le i1) (cut80_le a1) h1)
      exact nn l0 e0 k0 v0 d0 i0 a0 l1 e1 k1 v1 d1 i1 a1 p w hl0 he0 hk0 hv0 hd0 hi0 ha0 hl1 he1 hk1 hv1 hd1 hi1 ha1 E0 E1
    · have E1 := Lib.hid (fun w => encode_yes l1 e1 k1 v1 d1 (cut80 i1) (cut80 a1) S1 w f1 h1 HS1)
      have hz1 : S1.size = 128 := by rw [Go.Lib.size_eq, ← HS1]; exact secL_len h1
      exact ny l0 e0 k0 v0 d0 i0 a0 l1 e1 k1 v1 d1 i1 a1 p w hl0 he0 hk0 hv0 hd0 hi0 ha0 hl1 he1 hk1 hv1 hd1 hi1 ha1 E0 S1 hz1 E1
  obtain ⟨S0, HS0⟩ : ∃ S : ByteArray, secL ⟨l0, e0, k0, v0, d0, (cut80 i0).data.toList, (cut80 a0).data.toList⟩ = S.data.toList := ⟨⟨(secL ⟨l0, e0, k0, v0, d0, (cut80 i0).data.toList, (cut80 a0).data.toList⟩).toArray⟩, by simp⟩
  have E0 := Lib.hid (fun w => encode_yes l0 e0 k0 v0 d0 (cut80 i0) (cut80 a0) S0 w f0 h0 HS0)
  have hz0 : S0.size = 128 := by rw [Go.Lib.size_eq, ← HS0]; exact secL_len h0
  have hc0 : cutR S0.data.toList = ⟨l0, e0, k0, v0, d0, (cut80 i0).data.toList, (cut80 a0).data.toList⟩ := by rw [← HS0]; exact cutR_secL f0 h0
  obtain ⟨k, hk⟩ : ∃ k : Nat, p % 129 = (k : Int) := ⟨(p % 129).toNat, by omega⟩
  have hk8 : k ≤ 128 := by omega
  cases h1 : okR ⟨l1, e1, k1, v1, d1, (cut80 i1).data.toList, (cut80 a1).data.toList⟩
  · have E1 := Lib.hid (fun w => encode_no l1 e1 k1 v1 d1 (cut80 i1) (cut80 a1) w (cut80_le i1) (cut80_le a1) h1)
    have hzt := zeroTo_size 128
    obtain ⟨u1, u2⟩ := mix_len S0 (zeroTo 128) k hk8 hz0 hzt
    have hml := mix_list S0 (zeroTo 128) k hzt
    have hu : ¬ 9223372036854775807 < (S0.extract 0 k).size + ((zeroTo 128).extract k 128).size := by omega
    obtain ⟨M, hM⟩ : ∃ M, S0.extract 0 k ++ (zeroTo 128).extract k 128 = M := ⟨_, rfl⟩
    rw [hM] at hml
    have hMs : M.size ≤ 140737488355328 := by rw [← hM, ByteArray.size_append]; omega
    obtain ⟨o, l2, e2, k2, v2, d2, i2, a2, ni⟩ := next_some M l0 e0 hMs
    obtain ⟨o2, l3, e3, k3, v3, d3, i3, a3, ni2⟩ := next_some M l1 e1 hMs
    have hd : (zeroTo 128).data.toList.drop 116 = List.replicate 12 0 := by simp [zeroTo]
    have key := first_is (r := ⟨l0, e0, k0, v0, d0, (cut80 i0).data.toList, (cut80 a0).data.toList⟩) S0 M (zeroTo 128).data.toList k hk8 f0 h0 HS0 (by rw [← Go.Lib.size_eq]; exact hzt) (by rw [hd]; exact stamp_ne f0 h0) hml ni
    cases o
    · exact mf5 l0 e0 k0 v0 d0 i0 a0 l1 e1 k1 v1 d1 i1 a1 p w hl0 he0 hk0 hv0 hd0 hi0 ha0 hl1 he1 hk1 hv1 hd1 hi1 ha1 S0 hz0 E0 E1 k hk8 hk hp0 hp1 M hM hu l2 e2 k2 v2 d2 i2 a2 (beq_is key) (Lib.hid ni.call) o2 l3 e3 k3 v3 d3 i3 a3 (Lib.hid ni2.call)
    · obtain rfl := key.1 rfl
      obtain ⟨rfl, rfl, rfl, rfl, rfl, rfl, rfl⟩ := recs_eq (hc0.symm.trans (ni.is rfl))
      exact mt5 l0 e0 k0 v0 d0 i0 a0 l1 e1 k1 v1 d1 i1 a1 p w hl0 he0 hk0 hv0 hd0 hi0 ha0 hl1 he1 hk1 hv1 hd1 hi1 ha1 M hz0 E0 E1 k hk8 hk hp0 hp1 hM hu (Lib.hid ni.call) o2 l3 e3 k3 v3 d3 i3 a3 (Lib.hid ni2.call)
  · have E1 := Lib.hid (fun w => encode_yes l1 e1 k1 v1 d1 (cut80 i1) (cut80 a1) S1 w f1 h1 HS1)
    have hz1 : S1.size = 128 := by rw [Go.Lib.size_eq, ← HS1]; exact secL_len h1
    by_cases hpl : l0 = l1 ∧ e0 = e1
    · exact ysame l0 e0 k0 v0 d0 i0 a0 l1 e1 k1 v1 d1 i1 a1 p w hl0 he0 hk0 hv0 hd0 hi0 ha0 hl1 he1 hk1 hv1 hd1 hi1 ha1 S0 S1 hz0 hz1 E0 E1 (Lib.hid hpl)
    obtain ⟨u1, u2⟩ := mix_len S0 S1 k hk8 hz0 hz1
    have hml := mix_list S0 S1 k hz1
    have hu : ¬ 9223372036854775807 < (S0.extract 0 k).size + (S1.extract k 128).size := by omega
    obtain ⟨M, hM⟩ : ∃ M, S0.extract 0 k ++ S1.extract k 128 = M := ⟨_, rfl⟩
    rw [hM] at hml
    have hMs : M.size ≤ 140737488355328 := by rw [← hM, ByteArray.size_append]; omega
    obtain ⟨o, l2, e2, k2, v2, d2, i2, a2, ni⟩ := next_some M l0 e0 hMs
    obtain ⟨o2, l3, e3, k3, v3, d3, i3, a3, ni2⟩ := next_some M l1 e1 hMs
    have hst : stampL ⟨l0, e0, k0, v0, d0, (cut80 i0).data.toList, (cut80 a0).data.toList⟩ ≠ stampL ⟨l1, e1, k1, v1, d1, (cut80 i1).data.toList, (cut80 a1).data.toList⟩ := fun h => hpl (stampL_inj f0 f1 h)
    have hd : S1.data.toList.drop 116 = stampL ⟨l1, e1, k1, v1, d1, (cut80 i1).data.toList, (cut80 a1).data.toList⟩ := by rw [← HS1]; exact secL_last h1
    have key := first_is (r := ⟨l0, e0, k0, v0, d0, (cut80 i0).data.toList, (cut80 a0).data.toList⟩) S0 M S1.data.toList k hk8 f0 h0 HS0 (by rw [← Go.Lib.size_eq]; exact hz1) (by rw [hd]; exact fun h => hst h.symm) hml ni
    have key2 := other_is (r := ⟨l0, e0, k0, v0, d0, (cut80 i0).data.toList, (cut80 a0).data.toList⟩) (p := ⟨l1, e1, k1, v1, d1, (cut80 i1).data.toList, (cut80 a1).data.toList⟩) S0 S1 M k hk8 f0 h0 HS0 f1 h1 HS1 hst hml ni2
    have hq2 := beq_is key2
    by_cases hl : l0 = l1
    · have hne : (e0 == e1) = false := by
        rw [beq_eq_false_iff_ne]; exact fun h => hpl ⟨hl, h⟩
      cases o
      · exact mf0b l0 e0 k0 v0 d0 i0 a0 l1 e1 k1 v1 d1 i1 a1 p w hl0 he0 hk0 hv0 hd0 hi0 ha0 hl1 he1 hk1 hv1 hd1 hi1 ha1 S0 S1 hz0 hz1 E0 E1 (Lib.hid hl) hne k hk8 hk hp0 hp1 M hM hu l2 e2 k2 v2 d2 i2 a2 (beq_is key) (Lib.hid ni.call) o2 l3 e3 k3 v3 d3 i3 a3 hq2 (Lib.hid ni2.call)
      · obtain rfl := key.1 rfl
        obtain ⟨rfl, rfl, rfl, rfl, rfl, rfl, rfl⟩ := recs_eq (hc0.symm.trans (ni.is rfl))
        exact mt0b l0 e0 k0 v0 d0 i0 a0 l1 e1 k1 v1 d1 i1 a1 p w hl0 he0 hk0 hv0 hd0 hi0 ha0 hl1 he1 hk1 hv1 hd1 hi1 ha1 M S1 hz0 hz1 E0 E1 (Lib.hid hl) hne k hk8 hk hp0 hp1 hM hu (Lib.hid ni.call) o2 l3 e3 k3 v3 d3 i3 a3 hq2 (Lib.hid ni2.call)
    · have hne : (l0 == l1) = false := by rw [beq_eq_false_iff_ne]; exact hl
      cases o
      · exact mf0a l0 e0 k0 v0 d0 i0 a0 l1 e1 k1 v1 d1 i1 a1 p w hl0 he0 hk0 hv0 hd0 hi0 ha0 hl1 he1 hk1 hv1 hd1 hi1 ha1 S0 S1 hz0 hz1 E0 E1 hne k hk8 hk hp0 hp1 M hM hu l2 e2 k2 v2 d2 i2 a2 (beq_is key) (Lib.hid ni.call) o2 l3 e3 k3 v3 d3 i3 a3 hq2 (Lib.hid ni2.call)
      · obtain rfl := key.1 rfl
        obtain ⟨rfl, rfl, rfl, rfl, rfl, rfl, rfl⟩ := recs_eq (hc0.symm.trans (ni.is rfl))
        exact mt0a l0 e0 k0 v0 d0 i0 a0 l1 e1 k1 v1 d1 i1 a1 p w hl0 he0 hk0 hv0 hd0 hi0 ha0 hl1 he1 hk1 hv1 hd1 hi1 ha1 M S1 hz0 hz1 E0 E1 hne k hk8 hk hp0 hp1 hM hu (Lib.hid ni.call) o2 l3 e3 k3 v3 d3 i3 a3 hq2 (Lib.hid ni2.call)

set_option maxRecDepth 100000 in
theorem lifted (os : Os) (started : os.Started) (H : Type) (enc : TypeId × Value → H) :
    ReturnsInHanded {} Try.checked os 5 .any (Rows.recordTornSpec.pre6 enc Try.prog Try.f5 Rows.recordTornRow.domain false) (Rows.recordTornSpec.post enc Try.prog Try.f5 false true false false) := by
  refine returnsInHanded_of_change (C := Try.checked) own started (by kernel_rfl) Try.func5
    (ChangeSpec.witness6 (enc := enc) (C := Try.checked) false ⟨#[], #[.agg #[.int .u64 0, .int .u32 0, .int .i64 0, .int .u64 0, .int .u64 0, .string ByteArray.empty, .string ByteArray.empty], .agg #[.int .u64 0, .int .u32 0, .int .i64 0, .int .u64 0, .int .u64 0, .string ByteArray.empty, .string ByteArray.empty], .int .u8 0], []⟩ 8 (by kernel_rfl) (by kernel_rfl) (by kernel_rfl) (by kernel_rfl)) ?_
  intro W base args ds gs before hval0 hW hcnd _
  have hval : ∀ (j : Nat) t v, Try.f5.params[j]? = some t → args[j]? = some v → Value.okWide Try.prog W .any base t v := hval0
  have hW' := hW
  obtain ⟨p, q, hA0, hV, rfl, hfz, hnd⟩ := hW
  have hA : DataW.TrodAll enc Try.prog W 0 (fun _ => true) true Try.f5.params.toList args.toList ds p := hA0
  rw [Try.params5] at hA hval
  obtain ⟨v0, vs0, d0, ds0, p0, q0, hargs, rfl, rfl, h0, r0⟩ := trodAll_cons hA
  obtain ⟨v1, vs1, d1, ds1, p1, q1, rfl, rfl, rfl, h1, r1⟩ := trodAll_cons r0
  obtain ⟨v2, vs2, d2, ds2, p2, q2, rfl, rfl, rfl, h2, r2⟩ := trodAll_cons r1
  obtain ⟨rfl, rfl, rfl⟩ := trodAll_nil r2
  obtain rfl : args = #[v0, v1, v2] := by cases args; simp_all
  obtain ⟨rfl, rfl⟩ := trodVars_none hV
  obtain ⟨l0, e0, k0, v0, d0, i0, a0, rfl, hl0, he0, hk0, hv0, hd0, hi0, ha0⟩ := open_rec (hval 0 25 v0 rfl rfl) h0
  obtain ⟨l1, e1, k1, v1, d1, i1, a1, rfl, hl1, he1, hk1, hv1, hd1, hi1, ha1⟩ := open_rec (hval 1 25 v1 rfl rfl) h1
  obtain ⟨a2, rfl, rfl, rfl, w2⟩ := open_int Try.underlying5 (hval 2 5 v2 rfl rfl) h2
  clear hA0 hval0
  try simp only [List.append_nil] at hW'
  try simp only [List.nil_append] at hW'
  have hlt := fun x hx => hW'.lt x hx
  refine (walk l0 e0 k0 v0 d0 i0 a0 l1 e1 k1 v1 d1 i1 a1 a2 W hl0 he0 hk0 hv0 hd0 hi0 ha0 hl1 he1 hk1 hv1 hd1 hi1 ha1 w2).mono fun e W' ⟨he, hg⟩ => ?_
  subst he
  refine ⟨_, rfl, post_mem hW' (fun _ _ _ => (trodAll_cons_mk (shut_bool Try.underlying4 _) trodAll_mk0)) (fun sp hsp => ?_) (fun _ => rfl) hg (ok_one (by kernel_rfl) rfl (okWide_bool_mk Try.underlying4 _))⟩
  have hall := (trodAll_cons_mk (arg_same (sp := sp) laid (by kernel_rfl) (of_decide_eq_true (by kernel_rfl)) h0 hg (by intro x hx; simp_all) hlt hsp) (trodAll_cons_mk (arg_same (sp := sp) laid (by kernel_rfl) (of_decide_eq_true (by kernel_rfl)) h1 hg (by intro x hx; simp_all) hlt hsp) (trodAll_cons_mk (arg_same (sp := sp) laid (by kernel_rfl) (of_decide_eq_true (by kernel_rfl)) h2 hg (by intro x hx; simp_all) hlt hsp) trodAll_mk0)))
  try simp only [List.append_nil] at hall
  try simp only [List.nil_append] at hall
  exact hall

theorem over : Rows.recordTornRow.holds Try.pinned (OpenSpec.ofChange Rows.recordTornSpec) :=
  OpenClaim.holds_of_wide 5 Try.f5 rfl rfl rfl rfl rfl rfl rfl ⟨rfl, rfl, rfl, rfl, rfl⟩ rfl rfl rfl rfl rfl (by kernel_rfl) Try.func5 (by kernel_rfl)
    (of_decide_eq_true (by kernel_rfl)) (by unfold Func.isWrapper; first | (rw [if_pos (by decide +kernel)]; kernel_rfl) | (rw [if_neg (by decide +kernel)]; exact ⟨rfl, rfl⟩))
    (fun os started H enc _ => lifted os started H enc)

theorem proved : Rows.RecordTornSaid := over
#print axioms proved
end Go.Proofs.Ytgpcfdkblkkpeaa.recordTorn
