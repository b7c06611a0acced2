/- For every two records the statement RecordSides about record.Encode returns true, and changes nothing. Conditions: none. -/
import Derived.Test.YtgpcfdkblkkpeaaRecP
import Derived.Test.YtgpcfdkblkkpeaaRecO
import Derived.Deep.DeepCutAuto
import Derived.Deep.LoopGhost
import Derived.StillTailTactics
import Derived.WalkSmall
import Derived.ProofKit
import Derived.OpenShut
import Derived.ShutString
import Derived.SizedLaws
namespace Go.Proofs.Ytgpcfdkblkkpeaa.recordSides
open Go.ChangeShapes Go.WideShapes Go.ChangeAt Go.RowKit Go.Lib Wd Cr Ck
open Go.ChangeMaps (open_string shut_string)
set_option linter.unusedVariables false

theorem own : ownKnob Try.prog.godebug = none := by kernel_rfl
theorem laid : laidOutB Try.prog = true := by kernel_rfl

set_option maxRecDepth 100000 in
set_option maxHeartbeats 8000000 in
theorem no0 (l0 e0 k0 v0 d0 : Int) (i0 a0 : ByteArray) (l1 e1 k1 v1 d1 : Int) (i1 a1 : ByteArray) (w : World) (hl0 : 0 ≤ l0 ∧ l0 < 18446744073709551616) (he0 : 0 ≤ e0 ∧ e0 < 4294967296) (hk0 : -9223372036854775808 ≤ k0 ∧ k0 ≤ 9223372036854775807) (hv0 : 0 ≤ v0 ∧ v0 < 18446744073709551616) (hd0 : 0 ≤ d0 ∧ d0 < 18446744073709551616) (hi0 : i0.size ≤ maxLen) (ha0 : a0.size ≤ maxLen) (hl1 : 0 ≤ l1 ∧ l1 < 18446744073709551616) (he1 : 0 ≤ e1 ∧ e1 < 4294967296) (hk1 : -9223372036854775808 ≤ k1 ∧ k1 ≤ 9223372036854775807) (hv1 : 0 ≤ v1 ∧ v1 < 18446744073709551616) (hd1 : 0 ≤ d1 ∧ d1 < 18446744073709551616) (hi1 : i1.size ≤ maxLen) (ha1 : a1.size ≤ maxLen) (h : okR ⟨l0, e0, k0, v0, d0, (cut80 i0).data.toList, (cut80 a0).data.toList⟩ = false) :
    Calls Try.prog 7 #[.agg #[.int .u64 l0, .int .u32 e0, .int .i64 k0, .int .u64 v0, .int .u64 d0, .string i0, .string a0], .agg #[.int .u64 l1, .int .u32 e1, .int .i64 k1, .int .u64 v1, .int .u64 d1, .string i1, .string a1]] w fun e' w' => e' = .returned (.bool true) ∧ Below w.heap.size w w' := by
  have E0 := Lib.hid (fun w => encode_no l0 e0 k0 v0 d0 (cut80 i0) (cut80 a0) w (cut80_le i0) (cut80_le a0) h)
  have E1 : ∃ (S : ByteArray) (x : Int), Hid (∀ w, Calls Try.prog 10 #[.agg #[.int .u64 l1, .int .u32 e1, .int .i64 k1, .int .u64 v1, .int .u64 d1, .string (cut80 i1), .string (cut80 a1)]] w fun e' w' => e' = .returned (.tuple #[.string S, .int .i64 x]) ∧ Below w.heap.size w w') := by
    cases h1 : okR ⟨l1, e1, k1, v1, d1, (cut80 i1).data.toList, (cut80 a1).data.toList⟩
    · exact ⟨_, _, Lib.hid (fun w => encode_no l1 e1 k1 v1 d1 (cut80 i1) (cut80 a1) w (cut80_le i1) (cut80_le a1) h1)⟩
    · exact ⟨⟨(secL ⟨l1, e1, k1, v1, d1, (cut80 i1).data.toList, (cut80 a1).data.toList⟩).toArray⟩, _, Lib.hid (fun w => encode_yes l1 e1 k1 v1 d1 (cut80 i1) (cut80 a1) _ w (okA hl1 he1 hv1 hd1) h1 (by simp))⟩
  obtain ⟨S1, x, E1⟩ := E1
  clear h
  have C0 := Lib.hid (fun w => lawcut_any l0 e0 k0 v0 d0 i0 a0 w hi0 ha0)
  have C1 := Lib.hid (fun w => lawcut_any l1 e1 k1 v1 d1 i1 a1 w hi1 ha1)
  have zi0 := cut80_le i0
  have za0 := cut80_le a0
  have zi1 := cut80_le i1
  have za1 := cut80_le a1
  generalize cut80 i0 = x0 at *
  generalize cut80 a0 = y0 at *
  generalize cut80 i1 = x1 at *
  generalize cut80 a1 = y1 at *
  have G0 := layF l0 e0 k0 v0 d0 i0 a0 25 w
  have B := below1 w (.cells #[.int .u64 l0, .int .u32 e0, .int .i64 k0, .int .u64 v0, .int .u64 d0, .string i0, .string a0] 25)
  have G1 := layF l1 e1 k1 v1 d1 i1 a1 25 (w.alloc (.cells #[.int .u64 l0, .int .u32 e0, .int .i64 k0, .int .u64 v0, .int .u64 d0, .string i0, .string a0] 25))
  rw [show (w.alloc (.cells #[.int .u64 l0, .int .u32 e0, .int .i64 k0, .int .u64 v0, .int .u64 d0, .string i0, .string a0] 25)).heap.size = w.heap.size + 1 by simp] at G1
  have hb := below1 (w.alloc (.cells #[.int .u64 l0, .int .u32 e0, .int .i64 k0, .int .u64 v0, .int .u64 d0, .string i0, .string a0] 25)) (.cells #[.int .u64 l1, .int .u32 e1, .int .i64 k1, .int .u64 v1, .int .u64 d1, .string i1, .string a1] 25)
  replace G0 := G0.later hb
  replace B := Wd.Ge.trans B hb
  clear hb
  clear hi0 ha0 hi1 ha1
  go_enter Try.func7, Try.ntmps7
  go_wp2_with fail
  refine (C0.out _).mono ?_
  rintro e' w1 ⟨rfl, hb⟩
  replace G0 := G0.later hb
  replace G1 := G1.later hb
  replace B := Wd.Ge.trans B hb
  clear hb
  obtain ⟨cg, c0, c1, c2, c3, c4, c5, c6⟩ := G0.L
  have z0 := G0.F 0 (by omega)
  have z1 := G0.F 1 (by omega)
  have z2 := G0.F 2 (by omega)
  have z3 := G0.F 3 (by omega)
  have z4 := G0.F 4 (by omega)
  have z5 := G0.F 5 (by omega)
  have z6 := G0.F 6 (by omega)
  go_upto_region 2 with fail
  clear c0 c1 c2 c3 c4 c5 c6 cg
  clear z0 z1 z2 z3 z4 z5 z6
  replace G1 := G1.away (B := w.heap.size) (l := l0) (e := e0) (k := k0) (v := v0) (d := d0) (i := x0) (a := y0) (by omega)
  replace G0 := G0.put (l := l0) (e := e0) (k := k0) (v := v0) (d := d0) (i := x0) (a := y0)
  replace B := below7 l0 e0 k0 v0 d0 x0 y0 B (Nat.le_refl w.heap.size)
  generalize (((((((w1.setCell ⟨w.heap.size, 0, none⟩ (.int .u64 l0)).setCell ⟨w.heap.size, 1, none⟩ (.int .u32 e0)).setCell ⟨w.heap.size, 2, none⟩ (.int .i64 k0)).setCell ⟨w.heap.size, 3, none⟩ (.int .u64 v0)).setCell ⟨w.heap.size, 4, none⟩ (.int .u64 d0)).setCell ⟨w.heap.size, 5, none⟩ (.string x0)).setCell ⟨w.heap.size, 6, none⟩ (.string y0)) = w2 at *
  obtain ⟨cg, c0, c1, c2, c3, c4, c5, c6⟩ := G1.L
  have z0 := G1.F 0 (by omega)
  have z1 := G1.F 1 (by omega)
  have z2 := G1.F 2 (by omega)
  have z3 := G1.F 3 (by omega)
  have z4 := G1.F 4 (by omega)
  have z5 := G1.F 5 (by omega)
  have z6 := G1.F 6 (by omega)
  go_wp2_with fail
  refine (C1.out _).mono ?_
  rintro e' w3 ⟨rfl, hb⟩
  clear c0 c1 c2 c3 c4 c5 c6 cg
  clear z0 z1 z2 z3 z4 z5 z6
  replace G0 := G0.later hb
  replace G1 := G1.later hb
  replace B := Wd.Ge.trans B hb
  clear hb
  obtain ⟨cg, c0, c1, c2, c3, c4, c5, c6⟩ := G1.L
  have z0 := G1.F 0 (by omega)
  have z1 := G1.F 1 (by omega)
  have z2 := G1.F 2 (by omega)
  have z3 := G1.F 3 (by omega)
  have z4 := G1.F 4 (by omega)
  have z5 := G1.F 5 (by omega)
  have z6 := G1.F 6 (by omega)
  go_upto_region 3 with fail
  clear c0 c1 c2 c3 c4 c5 c6 cg
  clear z0 z1 z2 z3 z4 z5 z6
  replace G0 := G0.away (B := (w.heap.size + 1)) (l := l1) (e := e1) (k := k1) (v := v1) (d := d1) (i := x1) (a := y1) (by omega)
  replace G1 := G1.put (l := l1) (e := e1) (k := k1) (v := v1) (d := d1) (i := x1) (a := y1)
  replace B := below7 l1 e1 k1 v1 d1 x1 y1 B (show w.heap.size ≤ (w.heap.size + 1) by omega)
  generalize (((((((w3.setCell ⟨(w.heap.size + 1), 0, none⟩ (.int .u64 l1)).setCell ⟨(w.heap.size + 1), 1, none⟩ (.int .u32 e1)).setCell ⟨(w.heap.size + 1), 2, none⟩ (.int .i64 k1)).setCell ⟨(w.heap.size + 1), 3, none⟩ (.int .u64 v1)).setCell ⟨(w.heap.size + 1), 4, none⟩ (.int .u64 d1)).setCell ⟨(w.heap.size + 1), 5, none⟩ (.string x1)).setCell ⟨(w.heap.size + 1), 6, none⟩ (.string y1)) = w4 at *
  clear C0 C1
  obtain ⟨cg, c0, c1, c2, c3, c4, c5, c6⟩ := G0.L
  go_wp2_with fail
  refine (E0.out _).mono ?_
  rintro e' w5 ⟨rfl, hb⟩
  clear c0 c1 c2 c3 c4 c5 c6 cg
  replace G0 := G0.later hb
  replace G1 := G1.later hb
  replace B := Wd.Ge.trans B hb
  clear hb
  obtain ⟨cg, c0, c1, c2, c3, c4, c5, c6⟩ := G1.L
  go_wp2_with fail
  refine (E1.out _).mono ?_
  rintro e' w6 ⟨rfl, hb⟩
  clear c0 c1 c2 c3 c4 c5 c6 cg
  replace G0 := G0.later hb
  replace G1 := G1.later hb
  replace B := Wd.Ge.trans B hb
  clear hb
  go_wp2_with fail
  refine (fixed_any _).mono ?_
  rintro e' w7 ⟨rfl, hb⟩
  go_wp2_with fail
  go_ret
  exact ⟨rfl, Wd.Ge.trans B hb⟩

set_option maxRecDepth 100000 in
set_option maxHeartbeats 8000000 in
theorem no1 (l0 e0 k0 v0 d0 : Int) (i0 a0 : ByteArray) (l1 e1 k1 v1 d1 : Int) (i1 a1 : ByteArray) (w : World) (hl0 : 0 ≤ l0 ∧ l0 < 18446744073709551616) (he0 : 0 ≤ e0 ∧ e0 < 4294967296) (hk0 : -9223372036854775808 ≤ k0 ∧ k0 ≤ 9223372036854775807) (hv0 : 0 ≤ v0 ∧ v0 < 18446744073709551616) (hd0 : 0 ≤ d0 ∧ d0 < 18446744073709551616) (hi0 : i0.size ≤ maxLen) (ha0 : a0.size ≤ maxLen) (hl1 : 0 ≤ l1 ∧ l1 < 18446744073709551616) (he1 : 0 ≤ e1 ∧ e1 < 4294967296) (hk1 : -9223372036854775808 ≤ k1 ∧ k1 ≤ 9223372036854775807) (hv1 : 0 ≤ v1 ∧ v1 < 18446744073709551616) (hd1 : 0 ≤ d1 ∧ d1 < 18446744073709551616) (hi1 : i1.size ≤ maxLen) (ha1 : a1.size ≤ maxLen) (h : okR ⟨l0, e0, k0, v0, d0, (cut80 i0).data.toList, (cut80 a0).data.toList⟩ = true) (h1 : okR ⟨l1, e1, k1, v1, d1, (cut80 i1).data.toList, (cut80 a1).data.toList⟩ = false) :
    Calls Try.prog 7 #[.agg #[.int .u64 l0, .int .u32 e0, .int .i64 k0, .int .u64 v0, .int .u64 d0, .string i0, .string a0], .agg #[.int .u64 l1, .int .u32 e1, .int .i64 k1, .int .u64 v1, .int .u64 d1, .string i1, .string a1]] w fun e' w' => e' = .returned (.bool true) ∧ Below w.heap.size w w' := by
  obtain ⟨S0, HS⟩ : ∃ S : ByteArray, Hid (secL ⟨l0, e0, k0, v0, d0, (cut80 i0).data.toList, (cut80 a0).data.toList⟩ = S.data.toList) := ⟨⟨(secL ⟨l0, e0, k0, v0, d0, (cut80 i0).data.toList, (cut80 a0).data.toList⟩).toArray⟩, Lib.hid (by simp)⟩
  have E0 := Lib.hid (fun w => encode_yes l0 e0 k0 v0 d0 (cut80 i0) (cut80 a0) S0 w (okA hl0 he0 hv0 hd0) h HS.out)
  have E1 := Lib.hid (fun w => encode_no l1 e1 k1 v1 d1 (cut80 i1) (cut80 a1) w (cut80_le i1) (cut80_le a1) h1)
  clear h h1 HS
  have C0 := Lib.hid (fun w => lawcut_any l0 e0 k0 v0 d0 i0 a0 w hi0 ha0)
  have C1 := Lib.hid (fun w => lawcut_any l1 e1 k1 v1 d1 i1 a1 w hi1 ha1)
  have zi0 := cut80_le i0
  have za0 := cut80_le a0
  have zi1 := cut80_le i1
  have za1 := cut80_le a1
  generalize cut80 i0 = x0 at *
  generalize cut80 a0 = y0 at *
  generalize cut80 i1 = x1 at *
  generalize cut80 a1 = y1 at *
  have G0 := layF l0 e0 k0 v0 d0 i0 a0 25 w
  have B := below1 w (.cells #[.int .u64 l0, .int .u32 e0, .int .i64 k0, .int .u64 v0, .int .u64 d0, .string i0, .string a0] 25)
  have G1 := layF l1 e1 k1 v1 d1 i1 a1 25 (w.alloc (.cells #[.int .u64 l0, .int .u32 e0, .int .i64 k0, .int .u64 v0, .int .u64 d0, .string i0, .string a0] 25))
  rw [show (w.alloc (.cells #[.int .u64 l0, .int .u32 e0, .int .i64 k0, .int .u64 v0, .int .u64 d0, .string i0, .string a0] 25)).heap.size = w.heap.size + 1 by simp] at G1
  have hb := below1 (w.alloc (.cells #[.int .u64 l0, .int .u32 e0, .int .i64 k0, .int .u64 v0, .int .u64 d0, .string i0, .string a0] 25)) (.cells #[.int .u64 l1, .int .u32 e1, .int .i64 k1, .int .u64 v1, .int .u64 d1, .string i1, .string a1] 25)
  replace G0 := G0.later hb
  replace B := Wd.Ge.trans B hb
  clear hb
  clear hi0 ha0 hi1 ha1
  go_enter Try.func7, Try.ntmps7
  go_wp2_with fail
  refine (C0.out _).mono ?_
  rintro e' w1 ⟨rfl, hb⟩
  replace G0 := G0.later hb
  replace G1 := G1.later hb
  replace B := Wd.Ge.trans B hb
  clear hb
  obtain ⟨cg, c0, c1, c2, c3, c4, c5, c6⟩ := G0.L
  have z0 := G0.F 0 (by omega)
  have z1 := G0.F 1 (by omega)
  have z2 := G0.F 2 (by omega)
  have z3 := G0.F 3 (by omega)
  have z4 := G0.F 4 (by omega)
  have z5 := G0.F 5 (by omega)
  have z6 := G0.F 6 (by omega)
  go_upto_region 2 with fail
  clear c0 c1 c2 c3 c4 c5 c6 cg
  clear z0 z1 z2 z3 z4 z5 z6
  replace G1 := G1.away (B := w.heap.size) (l := l0) (e := e0) (k := k0) (v := v0) (d := d0) (i := x0) (a := y0) (by omega)
  replace G0 := G0.put (l := l0) (e := e0) (k := k0) (v := v0) (d := d0) (i := x0) (a := y0)
  replace B := below7 l0 e0 k0 v0 d0 x0 y0 B (Nat.le_refl w.heap.size)
  generalize (((((((w1.setCell ⟨w.heap.size, 0, none⟩ (.int .u64 l0)).setCell ⟨w.heap.size, 1, none⟩ (.int .u32 e0)).setCell ⟨w.heap.size, 2, none⟩ (.int .i64 k0)).setCell ⟨w.heap.size, 3, none⟩ (.int .u64 v0)).setCell ⟨w.heap.size, 4, none⟩ (.int .u64 d0)).setCell ⟨w.heap.size, 5, none⟩ (.string x0)).setCell ⟨w.heap.size, 6, none⟩ (.string y0)) = w2 at *
  obtain ⟨cg, c0, c1, c2, c3, c4, c5, c6⟩ := G1.L
  have z0 := G1.F 0 (by omega)
  have z1 := G1.F 1 (by omega)
  have z2 := G1.F 2 (by omega)
  have z3 := G1.F 3 (by omega)
  have z4 := G1.F 4 (by omega)
  have z5 := G1.F 5 (by omega)
  have z6 := G1.F 6 (by omega)
  go_wp2_with fail
  refine (C1.out _).mono ?_
  rintro e' w3 ⟨rfl, hb⟩
  clear c0 c1 c2 c3 c4 c5 c6 cg
  clear z0 z1 z2 z3 z4 z5 z6
  replace G0 := G0.later hb
  replace G1 := G1.later hb
  replace B := Wd.Ge.trans B hb
  clear hb
  obtain ⟨cg, c0, c1, c2, c3, c4, c5, c6⟩ := G1.L
  have z0 := G1.F 0 (by omega)
  have z1 := G1.F 1 (by omega)
  have z2 := G1.F 2 (by omega)
  have z3 := G1.F 3 (by omega)
  have z4 := G1.F 4 (by omega)
  have z5 := G1.F 5 (by omega)
  have z6 := G1.F 6 (by omega)
  go_upto_region 3 with fail
  clear c0 c1 c2 c3 c4 c5 c6 cg
  clear z0 z1 z2 z3 z4 z5 z6
  replace G0 := G0.away (B := (w.heap.size + 1)) (l := l1) (e := e1) (k := k1) (v := v1) (d := d1) (i := x1) (a := y1) (by omega)
  replace G1 := G1.put (l := l1) (e := e1) (k := k1) (v := v1) (d := d1) (i := x1) (a := y1)
  replace B := below7 l1 e1 k1 v1 d1 x1 y1 B (show w.heap.size ≤ (w.heap.size + 1) by omega)
  generalize (((((((w3.setCell ⟨(w.heap.size + 1), 0, none⟩ (.int .u64 l1)).setCell ⟨(w.heap.size + 1), 1, none⟩ (.int .u32 e1)).setCell ⟨(w.heap.size + 1), 2, none⟩ (.int .i64 k1)).setCell ⟨(w.heap.size + 1), 3, none⟩ (.int .u64 v1)).setCell ⟨(w.heap.size + 1), 4, none⟩ (.int .u64 d1)).setCell ⟨(w.heap.size + 1), 5, none⟩ (.string x1)).setCell ⟨(w.heap.size + 1), 6, none⟩ (.string y1)) = w4 at *
  clear C0 C1
  obtain ⟨cg, c0, c1, c2, c3, c4, c5, c6⟩ := G0.L
  go_wp2_with fail
  refine (E0.out _).mono ?_
  rintro e' w5 ⟨rfl, hb⟩
  clear c0 c1 c2 c3 c4 c5 c6 cg
  replace G0 := G0.later hb
  replace G1 := G1.later hb
  replace B := Wd.Ge.trans B hb
  clear hb
  obtain ⟨cg, c0, c1, c2, c3, c4, c5, c6⟩ := G1.L
  go_wp2_with fail
  refine (E1.out _).mono ?_
  rintro e' w6 ⟨rfl, hb⟩
  clear c0 c1 c2 c3 c4 c5 c6 cg
  replace G0 := G0.later hb
  replace G1 := G1.later hb
  replace B := Wd.Ge.trans B hb
  clear hb
  go_wp2_with fail
  refine (fixed_any _).mono ?_
  rintro e' w7 ⟨rfl, hb⟩
  go_wp2_with fail
  go_ret
  exact ⟨rfl, Wd.Ge.trans B hb⟩

set_option maxRecDepth 100000 in
set_option maxHeartbeats 8000000 in
theorem same (l0 e0 k0 v0 d0 : Int) (i0 a0 : ByteArray) (l1 e1 k1 v1 d1 : Int) (i1 a1 : ByteArray) (w : World) (hl0 : 0 ≤ l0 ∧ l0 < 18446744073709551616) (he0 : 0 ≤ e0 ∧ e0 < 4294967296) (hk0 : -9223372036854775808 ≤ k0 ∧ k0 ≤ 9223372036854775807) (hv0 : 0 ≤ v0 ∧ v0 < 18446744073709551616) (hd0 : 0 ≤ d0 ∧ d0 < 18446744073709551616) (hi0 : i0.size ≤ maxLen) (ha0 : a0.size ≤ maxLen) (hl1 : 0 ≤ l1 ∧ l1 < 18446744073709551616) (he1 : 0 ≤ e1 ∧ e1 < 4294967296) (hk1 : -9223372036854775808 ≤ k1 ∧ k1 ≤ 9223372036854775807) (hv1 : 0 ≤ v1 ∧ v1 < 18446744073709551616) (hd1 : 0 ≤ d1 ∧ d1 < 18446744073709551616) (hi1 : i1.size ≤ maxLen) (ha1 : a1.size ≤ maxLen) (S0 S1 : ByteArray) (E0 : Hid (∀ w, Calls Try.prog 10 #[.agg #[.int .u64 l0, .int .u32 e0, .int .i64 k0, .int .u64 v0, .int .u64 d0, .string (cut80 i0), .string (cut80 a0)]] w fun e' w' => e' = .returned (.tuple #[.string S0, .int .i64 0]) ∧ Below w.heap.size w w')) (E1 : Hid (∀ w, Calls Try.prog 10 #[.agg #[.int .u64 l1, .int .u32 e1, .int .i64 k1, .int .u64 v1, .int .u64 d1, .string (cut80 i1), .string (cut80 a1)]] w fun e' w' => e' = .returned (.tuple #[.string S1, .int .i64 0]) ∧ Below w.heap.size w w')) (hs : S0 = S1) (q : Hid (l0 = l1 ∧ e0 = e1 ∧ k0 = k1 ∧ v0 = v1 ∧ d0 = d1 ∧ cut80 i0 = cut80 i1 ∧ cut80 a0 = cut80 a1)) :
    Calls Try.prog 7 #[.agg #[.int .u64 l0, .int .u32 e0, .int .i64 k0, .int .u64 v0, .int .u64 d0, .string i0, .string a0], .agg #[.int .u64 l1, .int .u32 e1, .int .i64 k1, .int .u64 v1, .int .u64 d1, .string i1, .string a1]] w fun e' w' => e' = .returned (.bool true) ∧ Below w.heap.size w w' := by
  have C0 := Lib.hid (fun w => lawcut_any l0 e0 k0 v0 d0 i0 a0 w hi0 ha0)
  have C1 := Lib.hid (fun w => lawcut_any l1 e1 k1 v1 d1 i1 a1 w hi1 ha1)
  have zi0 := cut80_le i0
  have za0 := cut80_le a0
  have zi1 := cut80_le i1
  have za1 := cut80_le a1
  generalize cut80 i0 = x0 at *
  generalize cut80 a0 = y0 at *
  generalize cut80 i1 = x1 at *
  generalize cut80 a1 = y1 at *
  have G0 := layF l0 e0 k0 v0 d0 i0 a0 25 w
  have B := below1 w (.cells #[.int .u64 l0, .int .u32 e0, .int .i64 k0, .int .u64 v0, .int .u64 d0, .string i0, .string a0] 25)
  have G1 := layF l1 e1 k1 v1 d1 i1 a1 25 (w.alloc (.cells #[.int .u64 l0, .int .u32 e0, .int .i64 k0, .int .u64 v0, .int .u64 d0, .string i0, .string a0] 25))
  rw [show (w.alloc (.cells #[.int .u64 l0, .int .u32 e0, .int .i64 k0, .int .u64 v0, .int .u64 d0, .string i0, .string a0] 25)).heap.size = w.heap.size + 1 by simp] at G1
  have hb := below1 (w.alloc (.cells #[.int .u64 l0, .int .u32 e0, .int .i64 k0, .int .u64 v0, .int .u64 d0, .string i0, .string a0] 25)) (.cells #[.int .u64 l1, .int .u32 e1, .int .i64 k1, .int .u64 v1, .int .u64 d1, .string i1, .string a1] 25)
  replace G0 := G0.later hb
  replace B := Wd.Ge.trans B hb
  clear hb
  clear hi0 ha0 hi1 ha1
  go_enter Try.func7, Try.ntmps7
  go_wp2_with fail
  refine (C0.out _).mono ?_
  rintro e' w1 ⟨rfl, hb⟩
  replace G0 := G0.later hb
  replace G1 := G1.later hb
  replace B := Wd.Ge.trans B hb
  clear hb
  obtain ⟨cg, c0, c1, c2, c3, c4, c5, c6⟩ := G0.L
  have z0 := G0.F 0 (by omega)
  have z1 := G0.F 1 (by omega)
  have z2 := G0.F 2 (by omega)
  have z3 := G0.F 3 (by omega)
  have z4 := G0.F 4 (by omega)
  have z5 := G0.F 5 (by omega)
  have z6 := G0.F 6 (by omega)
  go_upto_region 2 with fail
  clear c0 c1 c2 c3 c4 c5 c6 cg
  clear z0 z1 z2 z3 z4 z5 z6
  replace G1 := G1.away (B := w.heap.size) (l := l0) (e := e0) (k := k0) (v := v0) (d := d0) (i := x0) (a := y0) (by omega)
  replace G0 := G0.put (l := l0) (e := e0) (k := k0) (v := v0) (d := d0) (i := x0) (a := y0)
  replace B := below7 l0 e0 k0 v0 d0 x0 y0 B (Nat.le_refl w.heap.size)
  generalize (((((((w1.setCell ⟨w.heap.size, 0, none⟩ (.int .u64 l0)).setCell ⟨w.heap.size, 1, none⟩ (.int .u32 e0)).setCell ⟨w.heap.size, 2, none⟩ (.int .i64 k0)).setCell ⟨w.heap.size, 3, none⟩ (.int .u64 v0)).setCell ⟨w.heap.size, 4, none⟩ (.int .u64 d0)).setCell ⟨w.heap.size, 5, none⟩ (.string x0)).setCell ⟨w.heap.size, 6, none⟩ (.string y0)) = w2 at *
  obtain ⟨cg, c0, c1, c2, c3, c4, c5, c6⟩ := G1.L
  have z0 := G1.F 0 (by omega)
  have z1 := G1.F 1 (by omega)
  have z2 := G1.F 2 (by omega)
  have z3 := G1.F 3 (by omega)
  have z4 := G1.F 4 (by omega)
  have z5 := G1.F 5 (by omega)
  have z6 := G1.F 6 (by omega)
  go_wp2_with fail
  refine (C1.out _).mono ?_
  rintro e' w3 ⟨rfl, hb⟩
  clear c0 c1 c2 c3 c4 c5 c6 cg
  clear z0 z1 z2 z3 z4 z5 z6
  replace G0 := G0.later hb
  replace G1 := G1.later hb
  replace B := Wd.Ge.trans B hb
  clear hb
  obtain ⟨cg, c0, c1, c2, c3, c4, c5, c6⟩ := G1.L
  have z0 := G1.F 0 (by omega)
  have z1 := G1.F 1 (by omega)
  have z2 := G1.F 2 (by omega)
  have z3 := G1.F 3 (by omega)
  have z4 := G1.F 4 (by omega)
  have z5 := G1.F 5 (by omega)
  have z6 := G1.F 6 (by omega)
  go_upto_region 3 with fail
  clear c0 c1 c2 c3 c4 c5 c6 cg
  clear z0 z1 z2 z3 z4 z5 z6
  replace G0 := G0.away (B := (w.heap.size + 1)) (l := l1) (e := e1) (k := k1) (v := v1) (d := d1) (i := x1) (a := y1) (by omega)
  replace G1 := G1.put (l := l1) (e := e1) (k := k1) (v := v1) (d := d1) (i := x1) (a := y1)
  replace B := below7 l1 e1 k1 v1 d1 x1 y1 B (show w.heap.size ≤ (w.heap.size + 1) by omega)
  generalize (((((((w3.setCell ⟨(w.heap.size + 1), 0, none⟩ (.int .u64 l1)).setCell ⟨(w.heap.size + 1), 1, none⟩ (.int .u32 e1)).setCell ⟨(w.heap.size + 1), 2, none⟩ (.int .i64 k1)).setCell ⟨(w.heap.size + 1), 3, none⟩ (.int .u64 v1)).setCell ⟨(w.heap.size + 1), 4, none⟩ (.int .u64 d1)).setCell ⟨(w.heap.size + 1), 5, none⟩ (.string x1)).setCell ⟨(w.heap.size + 1), 6, none⟩ (.string y1)) = w4 at *
  clear C0 C1
  obtain ⟨cg, c0, c1, c2, c3, c4, c5, c6⟩ := G0.L
  go_wp2_with fail
  refine (E0.out _).mono ?_
  rintro e' w5 ⟨rfl, hb⟩
  clear c0 c1 c2 c3 c4 c5 c6 cg
  replace G0 := G0.later hb
  replace G1 := G1.later hb
  replace B := Wd.Ge.trans B hb
  clear hb
  obtain ⟨cg, c0, c1, c2, c3, c4, c5, c6⟩ := G1.L
  go_wp2_with fail
  refine (E1.out _).mono ?_
  rintro e' w6 ⟨rfl, hb⟩
  clear c0 c1 c2 c3 c4 c5 c6 cg
  replace G0 := G0.later hb
  replace G1 := G1.later hb
  replace B := Wd.Ge.trans B hb
  clear hb
  obtain ⟨cg, c0, c1, c2, c3, c4, c5, c6⟩ := G0.L
  obtain ⟨mg, m0, m1, m2, m3, m4, m5, m6⟩ := G1.L
  obtain ⟨q0, q1, q2, q3, q4, q5, q6⟩ := q.out
  subst hs q0 q1 q2 q3 q4 q5 q6
  clear q
  have hq := eq_self S0
  go_wp2_with fail
  refine (fixed_any _).mono ?_
  rintro e' w7 ⟨rfl, hb⟩
  go_wp2_with fail
  go_ret
  exact ⟨rfl, Wd.Ge.trans B hb⟩

set_option maxRecDepth 100000 in
set_option maxHeartbeats 8000000 in
theorem unlike (l0 e0 k0 v0 d0 : Int) (i0 a0 : ByteArray) (l1 e1 k1 v1 d1 : Int) (i1 a1 : ByteArray) (w : World) (hl0 : 0 ≤ l0 ∧ l0 < 18446744073709551616) (he0 : 0 ≤ e0 ∧ e0 < 4294967296) (hk0 : -9223372036854775808 ≤ k0 ∧ k0 ≤ 9223372036854775807) (hv0 : 0 ≤ v0 ∧ v0 < 18446744073709551616) (hd0 : 0 ≤ d0 ∧ d0 < 18446744073709551616) (hi0 : i0.size ≤ maxLen) (ha0 : a0.size ≤ maxLen) (hl1 : 0 ≤ l1 ∧ l1 < 18446744073709551616) (he1 : 0 ≤ e1 ∧ e1 < 4294967296) (hk1 : -9223372036854775808 ≤ k1 ∧ k1 ≤ 9223372036854775807) (hv1 : 0 ≤ v1 ∧ v1 < 18446744073709551616) (hd1 : 0 ≤ d1 ∧ d1 < 18446744073709551616) (hi1 : i1.size ≤ maxLen) (ha1 : a1.size ≤ maxLen) (S0 S1 : ByteArray) (E0 : Hid (∀ w, Calls Try.prog 10 #[.agg #[.int .u64 l0, .int .u32 e0, .int .i64 k0, .int .u64 v0, .int .u64 d0, .string (cut80 i0), .string (cut80 a0)]] w fun e' w' => e' = .returned (.tuple #[.string S0, .int .i64 0]) ∧ Below w.heap.size w w')) (E1 : Hid (∀ w, Calls Try.prog 10 #[.agg #[.int .u64 l1, .int .u32 e1, .int .i64 k1, .int .u64 v1, .int .u64 d1, .string (cut80 i1), .string (cut80 a1)]] w fun e' w' => e' = .returned (.tuple #[.string S1, .int .i64 0]) ∧ Below w.heap.size w w')) (hs : (S0.toList == S1.toList) = false) (q : Hid (¬ l0 = l1 ∨ (l0 = l1 ∧ ¬ e0 = e1) ∨ (l0 = l1 ∧ e0 = e1 ∧ ¬ k0 = k1) ∨ (l0 = l1 ∧ e0 = e1 ∧ k0 = k1 ∧ ¬ v0 = v1) ∨ (l0 = l1 ∧ e0 = e1 ∧ k0 = k1 ∧ v0 = v1 ∧ ¬ d0 = d1) ∨ (l0 = l1 ∧ e0 = e1 ∧ k0 = k1 ∧ v0 = v1 ∧ d0 = d1 ∧ ¬ (cut80 i0).toList = (cut80 i1).toList) ∨ (l0 = l1 ∧ e0 = e1 ∧ k0 = k1 ∧ v0 = v1 ∧ d0 = d1 ∧ (cut80 i0).toList = (cut80 i1).toList ∧ ¬ (cut80 a0).toList = (cut80 a1).toList))) :
    Calls Try.prog 7 #[.agg #[.int .u64 l0, .int .u32 e0, .int .i64 k0, .int .u64 v0, .int .u64 d0, .string i0, .string a0], .agg #[.int .u64 l1, .int .u32 e1, .int .i64 k1, .int .u64 v1, .int .u64 d1, .string i1, .string a1]] w fun e' w' => e' = .returned (.bool true) ∧ Below w.heap.size w w' := by
  have C0 := Lib.hid (fun w => lawcut_any l0 e0 k0 v0 d0 i0 a0 w hi0 ha0)
  have C1 := Lib.hid (fun w => lawcut_any l1 e1 k1 v1 d1 i1 a1 w hi1 ha1)
  have zi0 := cut80_le i0
  have za0 := cut80_le a0
  have zi1 := cut80_le i1
  have za1 := cut80_le a1
  generalize cut80 i0 = x0 at *
  generalize cut80 a0 = y0 at *
  generalize cut80 i1 = x1 at *
  generalize cut80 a1 = y1 at *
  have G0 := layF l0 e0 k0 v0 d0 i0 a0 25 w
  have B := below1 w (.cells #[.int .u64 l0, .int .u32 e0, .int .i64 k0, .int .u64 v0, .int .u64 d0, .string i0, .string a0] 25)
  have G1 := layF l1 e1 k1 v1 d1 i1 a1 25 (w.alloc (.cells #[.int .u64 l0, .int .u32 e0, .int .i64 k0, .int .u64 v0, .int .u64 d0, .string i0, .string a0] 25))
  rw [show (w.alloc (.cells #[.int .u64 l0, .int .u32 e0, .int .i64 k0, .int .u64 v0, .int .u64 d0, .string i0, .string a0] 25)).heap.size = w.heap.size + 1 by simp] at G1
  have hb := below1 (w.alloc (.cells #[.int .u64 l0, .int .u32 e0, .int .i64 k0, .int .u64 v0, .int .u64 d0, .string i0, .string a0] 25)) (.cells #[.int .u64 l1, .int .u32 e1, .int .i64 k1, .int .u64 v1, .int .u64 d1, .string i1, .string a1] 25)
  replace G0 := G0.later hb
  replace B := Wd.Ge.trans B hb
  clear hb
  clear hi0 ha0 hi1 ha1
  go_enter Try.func7, Try.ntmps7
  go_wp2_with fail
  refine (C0.out _).mono ?_
  rintro e' w1 ⟨rfl, hb⟩
  replace G0 := G0.later hb
  replace G1 := G1.later hb
  replace B := Wd.Ge.trans B hb
  clear hb
  obtain ⟨cg, c0, c1, c2, c3, c4, c5, c6⟩ := G0.L
  have z0 := G0.F 0 (by omega)
  have z1 := G0.F 1 (by omega)
  have z2 := G0.F 2 (by omega)
  have z3 := G0.F 3 (by omega)
  have z4 := G0.F 4 (by omega)
  have z5 := G0.F 5 (by omega)
  have z6 := G0.F 6 (by omega)
  go_upto_region 2 with fail
  clear c0 c1 c2 c3 c4 c5 c6 cg
  clear z0 z1 z2 z3 z4 z5 z6
  replace G1 := G1.away (B := w.heap.size) (l := l0) (e := e0) (k := k0) (v := v0) (d := d0) (i := x0) (a := y0) (by omega)
  replace G0 := G0.put (l := l0) (e := e0) (k := k0) (v := v0) (d := d0) (i := x0) (a := y0)
  replace B := below7 l0 e0 k0 v0 d0 x0 y0 B (Nat.le_refl w.heap.size)
  generalize (((((((w1.setCell ⟨w.heap.size, 0, none⟩ (.int .u64 l0)).setCell ⟨w.heap.size, 1, none⟩ (.int .u32 e0)).setCell ⟨w.heap.size, 2, none⟩ (.int .i64 k0)).setCell ⟨w.heap.size, 3, none⟩ (.int .u64 v0)).setCell ⟨w.heap.size, 4, none⟩ (.int .u64 d0)).setCell ⟨w.heap.size, 5, none⟩ (.string x0)).setCell ⟨w.heap.size, 6, none⟩ (.string y0)) = w2 at *
  obtain ⟨cg, c0, c1, c2, c3, c4, c5, c6⟩ := G1.L
  have z0 := G1.F 0 (by omega)
  have z1 := G1.F 1 (by omega)
  have z2 := G1.F 2 (by omega)
  have z3 := G1.F 3 (by omega)
  have z4 := G1.F 4 (by omega)
  have z5 := G1.F 5 (by omega)
  have z6 := G1.F 6 (by omega)
  go_wp2_with fail
  refine (C1.out _).mono ?_
  rintro e' w3 ⟨rfl, hb⟩
  clear c0 c1 c2 c3 c4 c5 c6 cg
  clear z0 z1 z2 z3 z4 z5 z6
  replace G0 := G0.later hb
  replace G1 := G1.later hb
  replace B := Wd.Ge.trans B hb
  clear hb
  obtain ⟨cg, c0, c1, c2, c3, c4, c5, c6⟩ := G1.L
  have z0 := G1.F 0 (by omega)
  have z1 := G1.F 1 (by omega)
  have z2 := G1.F 2 (by omega)
  have z3 := G1.F 3 (by omega)
  have z4 := G1.F 4 (by omega)
  have z5 := G1.F 5 (by omega)
  have z6 := G1.F 6 (by omega)
  go_upto_region 3 with fail
  clear c0 c1 c2 c3 c4 c5 c6 cg
  clear z0 z1 z2 z3 z4 z5 z6
  replace G0 := G0.away (B := (w.heap.size + 1)) (l := l1) (e := e1) (k := k1) (v := v1) (d := d1) (i := x1) (a := y1) (by omega)
  replace G1 := G1.put (l := l1) (e := e1) (k := k1) (v := v1) (d := d1) (i := x1) (a := y1)
  replace B := below7 l1 e1 k1 v1 d1 x1 y1 B (show w.heap.size ≤ (w.heap.size + 1) by omega)
  generalize (((((((w3.setCell ⟨(w.heap.size + 1), 0, none⟩ (.int .u64 l1)).setCell ⟨(w.heap.size + 1), 1, none⟩ (.int .u32 e1)).setCell ⟨(w.heap.size + 1), 2, none⟩ (.int .i64 k1)).setCell ⟨(w.heap.size + 1), 3, none⟩ (.int .u64 v1)).setCell ⟨(w.heap.size + 1), 4, none⟩ (.int .u64 d1)).setCell ⟨(w.heap.size + 1), 5, none⟩ (.string x1)).setCell ⟨(w.heap.size + 1), 6, none⟩ (.string y1)) = w4 at *
  clear C0 C1
  obtain ⟨cg, c0, c1, c2, c3, c4, c5, c6⟩ := G0.L
  go_wp2_with fail
  refine (E0.out _).mono ?_
  rintro e' w5 ⟨rfl, hb⟩
  clear c0 c1 c2 c3 c4 c5 c6 cg
  replace G0 := G0.later hb
  replace G1 := G1.later hb
  replace B := Wd.Ge.trans B hb
  clear hb
  obtain ⟨cg, c0, c1, c2, c3, c4, c5, c6⟩ := G1.L
  go_wp2_with fail
  refine (E1.out _).mono ?_
  rintro e' w6 ⟨rfl, hb⟩
  clear c0 c1 c2 c3 c4 c5 c6 cg
  replace G0 := G0.later hb
  replace G1 := G1.later hb
  replace B := Wd.Ge.trans B hb
  clear hb
  obtain ⟨cg, c0, c1, c2, c3, c4, c5, c6⟩ := G0.L
  obtain ⟨mg, m0, m1, m2, m3, m4, m5, m6⟩ := G1.L
  rcases q.out with q0 | ⟨q0, q1⟩ | ⟨q0, q1, q2⟩ | ⟨q0, q1, q2, q3⟩ | ⟨q0, q1, q2, q3, q4⟩ | ⟨q0, q1, q2, q3, q4, q5⟩ | ⟨q0, q1, q2, q3, q4, q5, q6⟩
  all_goals
    clear q
    go_wp2_with fail
    refine (fixed_any _).mono ?_
    rintro e' w7 ⟨rfl, hb⟩
    go_wp2_with fail
    go_ret
    exact ⟨rfl, Wd.Ge.trans B hb⟩


theorem walk (l0 e0 k0 v0 d0 : Int) (i0 a0 : ByteArray) (l1 e1 k1 v1 d1 : Int) (i1 a1 : ByteArray) (w : World) (hl0 : 0 ≤ l0 ∧ l0 < 18446744073709551616) (he0 : 0 ≤ e0 ∧ e0 < 4294967296) (hk0 : -9223372036854775808 ≤ k0 ∧ k0 ≤ 9223372036854775807) (hv0 : 0 ≤ v0 ∧ v0 < 18446744073709551616) (hd0 : 0 ≤ d0 ∧ d0 < 18446744073709551616) (hi0 : i0.size ≤ maxLen) (ha0 : a0.size ≤ maxLen) (hl1 : 0 ≤ l1 ∧ l1 < 18446744073709551616) (he1 : 0 ≤ e1 ∧ e1 < 4294967296) (hk1 : -9223372036854775808 ≤ k1 ∧ k1 ≤ 9223372036854775807) (hv1 : 0 ≤ v1 ∧ v1 < 18446744073709551616) (hd1 : 0 ≤ d1 ∧ d1 < 18446744073709551616) (hi1 : i1.size ≤ maxLen) (ha1 : a1.size ≤ maxLen) :
    Calls Try.prog 7 #[.agg #[.int .u64 l0, .int .u32 e0, .int .i64 k0, .int .u64 v0, .int .u64 d0, .string i0, .string a0], .agg #[.int .u64 l1, .int .u32 e1, .int .i64 k1, .int .u64 v1, .int .u64 d1, .string i1, .string a1]] w fun e' w' => e' = .returned (.bool true) ∧ Below w.heap.size w w' := by
  cases h0 : okR ⟨l0, e0, k0, v0, d0, (cut80 i0).data.toList, (cut80 a0).data.toList⟩
  · exact no0 l0 e0 k0 v0 d0 i0 a0 l1 e1 k1 v1 d1 i1 a1 w hl0 he0 hk0 hv0 hd0 hi0 ha0 hl1 he1 hk1 hv1 hd1 hi1 ha1 h0
  cases h1 : okR ⟨l1, e1, k1, v1, d1, (cut80 i1).data.toList, (cut80 a1).data.toList⟩
  · exact no1 l0 e0 k0 v0 d0 i0 a0 l1 e1 k1 v1 d1 i1 a1 w hl0 he0 hk0 hv0 hd0 hi0 ha0 hl1 he1 hk1 hv1 hd1 hi1 ha1 h0 h1
  have f0 : Fits ⟨l0, e0, k0, v0, d0, (cut80 i0).data.toList, (cut80 a0).data.toList⟩ := okA (i := cut80 i0) (a := cut80 a0) hl0 he0 hv0 hd0
  have f1 : Fits ⟨l1, e1, k1, v1, d1, (cut80 i1).data.toList, (cut80 a1).data.toList⟩ := okA (i := cut80 i1) (a := cut80 a1) hl1 he1 hv1 hd1
  have E0 := Lib.hid (fun w => encode_yes l0 e0 k0 v0 d0 (cut80 i0) (cut80 a0) ⟨(secL ⟨l0, e0, k0, v0, d0, (cut80 i0).data.toList, (cut80 a0).data.toList⟩).toArray⟩ w f0 h0 (by simp))
  have E1 := Lib.hid (fun w => encode_yes l1 e1 k1 v1 d1 (cut80 i1) (cut80 a1) ⟨(secL ⟨l1, e1, k1, v1, d1, (cut80 i1).data.toList, (cut80 a1).data.toList⟩).toArray⟩ w f1 h1 (by simp))
  by_cases q : l0 = l1 ∧ e0 = e1 ∧ k0 = k1 ∧ v0 = v1 ∧ d0 = d1 ∧ cut80 i0 = cut80 i1 ∧ cut80 a0 = cut80 a1
  · refine same l0 e0 k0 v0 d0 i0 a0 l1 e1 k1 v1 d1 i1 a1 w hl0 he0 hk0 hv0 hd0 hi0 ha0 hl1 he1 hk1 hv1 hd1 hi1 ha1 _ _ E0 E1 ?_ (Lib.hid q)
    obtain ⟨q0, q1, q2, q3, q4, q5, q6⟩ := q
    rw [q0, q1, q2, q3, q4, q5, q6]
  · refine unlike l0 e0 k0 v0 d0 i0 a0 l1 e1 k1 v1 d1 i1 a1 w hl0 he0 hk0 hv0 hd0 hi0 ha0 hl1 he1 hk1 hv1 hd1 hi1 ha1 _ _ E0 E1 (ne_str ?_) (Lib.hid ?_)
    · intro hs
      have hr := secL_inj f0 h0 f1 h1 (by simpa using hs)
      simp only [Rec.mk.injEq] at hr
      obtain ⟨q0, q1, q2, q3, q4, q5, q6⟩ := hr
      exact q ⟨q0, q1, q2, q3, q4, bytes_ext q5, bytes_ext q6⟩
    · have t1 : (cut80 i0).toList = (cut80 i1).toList → cut80 i0 = cut80 i1 := fun h => by rw [toList_data, toList_data] at h; exact bytes_ext h
      have t2 : (cut80 a0).toList = (cut80 a1).toList → cut80 a0 = cut80 a1 := fun h => by rw [toList_data, toList_data] at h; exact bytes_ext h
      by_cases q0 : l0 = l1
      · by_cases q1 : e0 = e1
        · by_cases q2 : k0 = k1
          · by_cases q3 : v0 = v1
            · by_cases q4 : d0 = d1
              · by_cases q5 : (cut80 i0).toList = (cut80 i1).toList
                · by_cases q6 : (cut80 a0).toList = (cut80 a1).toList
                  · exact absurd ⟨q0, q1, q2, q3, q4, t1 q5, t2 q6⟩ q
                  · exact .inr (.inr (.inr (.inr (.inr (.inr ⟨q0, q1, q2, q3, q4, q5, q6⟩)))))
                · exact .inr (.inr (.inr (.inr (.inr (.inl ⟨q0, q1, q2, q3, q4, q5⟩)))))
              · exact .inr (.inr (.inr (.inr (.inl ⟨q0, q1, q2, q3, q4⟩))))
            · exact .inr (.inr (.inr (.inl ⟨q0, q1, q2, q3⟩)))
          · exact .inr (.inr (.inl ⟨q0, q1, q2⟩))
        · exact .inr (.inl ⟨q0, q1⟩)
      · exact .inl q0

set_option maxRecDepth 100000 in
theorem lifted (os : Os) (started : os.Started) (H : Type) (enc : TypeId × Value → H) :
    ReturnsInHanded {} Try.checked os 7 .any (Rows.recordSidesSpec.pre6 enc Try.prog Try.f7 Rows.recordSidesRow.domain false) (Rows.recordSidesSpec.post enc Try.prog Try.f7 false true false false) := by
  refine returnsInHanded_of_change (C := Try.checked) own started (by kernel_rfl) Try.func7
    (ChangeSpec.witness6 (enc := enc) (C := Try.checked) false ⟨#[], #[.agg #[.int .u64 0, .int .u32 0, .int .i64 0, .int .u64 0, .int .u64 0, .string ByteArray.empty, .string ByteArray.empty], .agg #[.int .u64 0, .int .u32 0, .int .i64 0, .int .u64 0, .int .u64 0, .string ByteArray.empty, .string ByteArray.empty]], []⟩ 8 (by kernel_rfl) (by kernel_rfl) (by kernel_rfl) (by kernel_rfl)) ?_
  intro W base args ds gs before hval0 hW hcnd _
  have hval : ∀ (j : Nat) t v, Try.f7.params[j]? = some t → args[j]? = some v → Value.okWide Try.prog W .any base t v := hval0
  have hW' := hW
  obtain ⟨p, q, hA0, hV, rfl, hfz, hnd⟩ := hW
  have hA : DataW.TrodAll enc Try.prog W 0 (fun _ => true) true Try.f7.params.toList args.toList ds p := hA0
  rw [Try.params7] at hA hval
  obtain ⟨v0, vs0, d0, ds0, p0, q0, hargs, rfl, rfl, h0, r0⟩ := trodAll_cons hA
  obtain ⟨v1, vs1, d1, ds1, p1, q1, rfl, rfl, rfl, h1, r1⟩ := trodAll_cons r0
  obtain ⟨rfl, rfl, rfl⟩ := trodAll_nil r1
  obtain rfl : args = #[v0, v1] := by cases args; simp_all
  obtain ⟨rfl, rfl⟩ := trodVars_none hV
  obtain ⟨l0, e0, k0, v0, d0, i0, a0, rfl, hl0, he0, hk0, hv0, hd0, hi0, ha0⟩ := open_rec (hval 0 25 v0 rfl rfl) h0
  obtain ⟨l1, e1, k1, v1, d1, i1, a1, rfl, hl1, he1, hk1, hv1, hd1, hi1, ha1⟩ := open_rec (hval 1 25 v1 rfl rfl) h1
  clear hA0 hval0
  try simp only [List.append_nil] at hW'
  try simp only [List.nil_append] at hW'
  have hlt := fun x hx => hW'.lt x hx
  refine (walk l0 e0 k0 v0 d0 i0 a0 l1 e1 k1 v1 d1 i1 a1 W hl0 he0 hk0 hv0 hd0 hi0 ha0 hl1 he1 hk1 hv1 hd1 hi1 ha1).mono fun e W' ⟨he, hg⟩ => ?_
  subst he
  refine ⟨_, rfl, post_mem hW' (fun _ _ _ => (trodAll_cons_mk (shut_bool Try.underlying4 _) trodAll_mk0)) (fun sp hsp => ?_) (fun _ => rfl) hg (ok_one (by kernel_rfl) rfl (okWide_bool_mk Try.underlying4 _))⟩
  have hall := (trodAll_cons_mk (arg_same (sp := sp) laid (by kernel_rfl) (of_decide_eq_true (by kernel_rfl)) h0 hg (by intro x hx; simp_all) hlt hsp) (trodAll_cons_mk (arg_same (sp := sp) laid (by kernel_rfl) (of_decide_eq_true (by kernel_rfl)) h1 hg (by intro x hx; simp_all) hlt hsp) trodAll_mk0))
  try simp only [List.append_nil] at hall
  try simp only [List.nil_append] at hall
  exact hall

theorem over : Rows.recordSidesRow.holds Try.pinned (OpenSpec.ofChange Rows.recordSidesSpec) :=
  OpenClaim.holds_of_wide 7 Try.f7 rfl rfl rfl rfl rfl rfl rfl ⟨rfl, rfl, rfl, rfl, rfl⟩ rfl rfl rfl rfl rfl (by kernel_rfl) Try.func7 (by kernel_rfl)
    (of_decide_eq_true (by kernel_rfl)) (by unfold Func.isWrapper; first | (rw [if_pos (by decide +kernel)]; kernel_rfl) | (rw [if_neg (by decide +kernel)]; exact ⟨rfl, rfl⟩))
    (fun os started H enc _ => lifted os started H enc)

theorem proved : Rows.RecordSidesSaid := over
#print axioms proved
end Go.Proofs.Ytgpcfdkblkkpeaa.recordSides
