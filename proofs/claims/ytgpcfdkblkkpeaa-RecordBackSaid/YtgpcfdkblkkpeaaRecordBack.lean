/- For every record and every text the statement RecordBack about record.Encode, Decode and Next returns true, and changes nothing. Conditions: none. -/
import Derived.Test.YtgpcfdkblkkpeaaRecS
import Derived.Test.YtgpcfdkblkkpeaaRecO
import Derived.Deep.DeepCutAuto
import Derived.Deep.LoopGhost
import Derived.StillTailTactics
import Derived.WalkSmall
import Derived.ProofKit
import Derived.OpenShut
import Derived.ShutString
import Derived.SizedLaws
namespace Go.Proofs.Ytgpcfdkblkkpeaa.recordBack
open Go.ChangeShapes Go.WideShapes Go.ChangeAt Go.RowKit Go.Lib Wd Cr Ck
open Go.ChangeMaps (open_string shut_string)
set_option linter.unusedVariables false

theorem own : ownKnob Try.prog.godebug = none := by kernel_rfl
theorem laid : laidOutB Try.prog = true := by kernel_rfl

set_option maxRecDepth 100000 in
set_option maxHeartbeats 8000000 in
theorem nn (l0 e0 k0 v0 d0 : Int) (i0 a0 : ByteArray) (s : ByteArray) (w : World) (hl0 : 0 ≤ l0 ∧ l0 < 18446744073709551616) (he0 : 0 ≤ e0 ∧ e0 < 4294967296) (hk0 : -9223372036854775808 ≤ k0 ∧ k0 ≤ 9223372036854775807) (hv0 : 0 ≤ v0 ∧ v0 < 18446744073709551616) (hd0 : 0 ≤ d0 ∧ d0 < 18446744073709551616) (hi0 : i0.size ≤ maxLen) (ha0 : a0.size ≤ maxLen) (hs : s.size ≤ maxLen) (T : ByteArray) (ET : Hid (s.extract 0 (min (s.size : Int) 130).toNat = T)) (zT : T.size ≤ 130) (h : okR ⟨l0, e0, k0, v0, d0, (cut80 i0).data.toList, (cut80 a0).data.toList⟩ = false) (ht : isSec T.data.toList = false) :
    Calls Try.prog 4 #[.agg #[.int .u64 l0, .int .u32 e0, .int .i64 k0, .int .u64 v0, .int .u64 d0, .string i0, .string a0], .string s] w fun e' w' => e' = .returned (.bool true) ∧ Below w.heap.size w w' := by
  have E0 := Lib.hid (fun w => encode_no l0 e0 k0 v0 d0 (cut80 i0) (cut80 a0) w (cut80_le i0) (cut80_le a0) h)
  have R0 := Lib.hid (fun w => right_any l0 e0 k0 v0 d0 (cut80 i0) (cut80 a0) false w (cut80_le i0) (cut80_le a0) h)
  unfold maxLen at hs
  have T0 := Lib.hid (fun w => decode_no T w (by omega) ht)
  clear ht
  clear h
  have C0 := Lib.hid (fun w => lawcut_any l0 e0 k0 v0 d0 i0 a0 w hi0 ha0)
  have zi0 := cut80_size i0
  have za0 := cut80_size a0
  generalize cut80 i0 = x0 at *
  generalize cut80 a0 = y0 at *
  have G0 := layF l0 e0 k0 v0 d0 i0 a0 25 w
  have B := below1 w (.cells #[.int .u64 l0, .int .u32 e0, .int .i64 k0, .int .u64 v0, .int .u64 d0, .string i0, .string a0] 25)
  clear hi0 ha0
  go_enter Try.func4, Try.ntmps4
  go_wp2_with fail
  refine (C0.out _).mono ?_
  rintro e' w1 ⟨rfl, hb⟩
  replace G0 := G0.later hb
  replace B := Wd.Ge.trans B hb
  clear hb
  obtain ⟨cg, c0, c1, c2, c3, c4, c5, c6⟩ := G0.L
  have z0 := G0.F 0 (by omega)
  have z1 := G0.F 1 (by omega)
  have z2 := G0.F 2 (by omega)
  have z3 := G0.F 3 (by omega)
  have z4 := G0.F 4 (by omega)
  have z5 := G0.F 5 (by omega)
  have z6 := G0.F 6 (by omega)
  go_upto_region 2 with fail
  clear c0 c1 c2 c3 c4 c5 c6 cg
  clear z0 z1 z2 z3 z4 z5 z6
  replace G0 := G0.put (l := l0) (e := e0) (k := k0) (v := v0) (d := d0) (i := x0) (a := y0)
  replace B := below7 l0 e0 k0 v0 d0 x0 y0 B (Nat.le_refl w.heap.size)
  generalize (((((((w1.setCell ⟨w.heap.size, 0, none⟩ (.int .u64 l0)).setCell ⟨w.heap.size, 1, none⟩ (.int .u32 e0)).setCell ⟨w.heap.size, 2, none⟩ (.int .i64 k0)).setCell ⟨w.heap.size, 3, none⟩ (.int .u64 v0)).setCell ⟨w.heap.size, 4, none⟩ (.int .u64 d0)).setCell ⟨w.heap.size, 5, none⟩ (.string x0)).setCell ⟨w.heap.size, 6, none⟩ (.string y0)) = w2 at *
  clear C0
  go_upto_region 3 with fail
  rw [ET.out]
  obtain ⟨cg, c0, c1, c2, c3, c4, c5, c6⟩ := G0.L
  go_wp2_with fail
  refine (E0.out _).mono ?_
  rintro e' w3 ⟨rfl, hb⟩
  clear c0 c1 c2 c3 c4 c5 c6 cg
  replace G0 := G0.later hb
  replace B := Wd.Ge.trans B hb
  clear hb
  obtain ⟨cg, c0, c1, c2, c3, c4, c5, c6⟩ := G0.L
  go_wp2_with fail
  refine (R0.out _).mono ?_
  rintro e' w4 ⟨rfl, hb⟩
  clear c0 c1 c2 c3 c4 c5 c6 cg
  replace G0 := G0.later hb
  replace B := Wd.Ge.trans B hb
  clear hb
  go_wp2_with fail
  refine (T0.out _).mono ?_
  rintro e' w11 ⟨rfl, hb⟩
  replace B := Wd.Ge.trans B hb
  clear hb
  have M5 := layR 0 0 0 0 0 ⟨#[]⟩ ⟨#[]⟩ 25 w11
  have hb := below1 w11 (.cells #[.int .u64 0, .int .u32 0, .int .i64 0, .int .u64 0, .int .u64 0, .string ⟨#[]⟩, .string ⟨#[]⟩] 25)
  replace B := Wd.Ge.trans B hb
  clear hb
  go_upto_region 13 with fail
  generalize w11.alloc (.cells #[.int .u64 0, .int .u32 0, .int .i64 0, .int .u64 0, .int .u64 0, .string ⟨#[]⟩, .string ⟨#[]⟩] 25) = w12 at *
  generalize w11.heap.size = b13 at *
  obtain ⟨tg, t0, t1, t2, t3, t4, t5, t6⟩ := M5
  go_wp2_with fail
  refine (fixed_any _).mono ?_
  rintro e' w13 ⟨rfl, hb⟩
  go_wp2_with fail
  go_ret
  exact ⟨rfl, Wd.Ge.trans B hb⟩

set_option maxRecDepth 100000 in
set_option maxHeartbeats 8000000 in
theorem ny (l0 e0 k0 v0 d0 : Int) (i0 a0 : ByteArray) (s : ByteArray) (w : World) (hl0 : 0 ≤ l0 ∧ l0 < 18446744073709551616) (he0 : 0 ≤ e0 ∧ e0 < 4294967296) (hk0 : -9223372036854775808 ≤ k0 ∧ k0 ≤ 9223372036854775807) (hv0 : 0 ≤ v0 ∧ v0 < 18446744073709551616) (hd0 : 0 ≤ d0 ∧ d0 < 18446744073709551616) (hi0 : i0.size ≤ maxLen) (ha0 : a0.size ≤ maxLen) (hs : s.size ≤ maxLen) (T : ByteArray) (ET : Hid (s.extract 0 (min (s.size : Int) 130).toNat = T)) (zT : T.size ≤ 130) (h : okR ⟨l0, e0, k0, v0, d0, (cut80 i0).data.toList, (cut80 a0).data.toList⟩ = false) (l1 e1 k1 v1 d1 : Int) (i1 a1 : ByteArray) (hc1 : cutR T.data.toList = ⟨l1, e1, k1, v1, d1, i1.data.toList, a1.data.toList⟩) (ht : isSec T.data.toList = true) :
    Calls Try.prog 4 #[.agg #[.int .u64 l0, .int .u32 e0, .int .i64 k0, .int .u64 v0, .int .u64 d0, .string i0, .string a0], .string s] w fun e' w' => e' = .returned (.bool true) ∧ Below w.heap.size w w' := by
  have E0 := Lib.hid (fun w => encode_no l0 e0 k0 v0 d0 (cut80 i0) (cut80 a0) w (cut80_le i0) (cut80_le a0) h)
  have R0 := Lib.hid (fun w => right_any l0 e0 k0 v0 d0 (cut80 i0) (cut80 a0) false w (cut80_le i0) (cut80_le a0) h)
  unfold maxLen at hs
  have hf1 := cutR_fits T.data.toList
  obtain ⟨ho1, hq1⟩ := (isSec_iff _).1 ht
  have T0 := Lib.hid (fun w => decode_yes T l1 e1 k1 v1 d1 i1 a1 w (by omega) hc1 ht)
  rw [hc1] at hf1 ho1 hq1
  have T1 := Lib.hid (fun w => encode_yes l1 e1 k1 v1 d1 i1 a1 T w hf1 ho1 hq1)
  have hzi1 : i1.size ≤ maxLen := by
    have := okR_i ho1
    simp only [← Go.Lib.size_eq] at this
    unfold maxLen; omega
  have hza1 : a1.size ≤ maxLen := by
    have := okR_a ho1
    simp only [← Go.Lib.size_eq] at this
    unfold maxLen; omega
  have T2 := Lib.hid (fun w => right_any l1 e1 k1 v1 d1 i1 a1 true w hzi1 hza1 ho1)
  clear ht hf1 ho1 hq1 hc1 hzi1 hza1
  clear h
  have C0 := Lib.hid (fun w => lawcut_any l0 e0 k0 v0 d0 i0 a0 w hi0 ha0)
  have zi0 := cut80_size i0
  have za0 := cut80_size a0
  generalize cut80 i0 = x0 at *
  generalize cut80 a0 = y0 at *
  have G0 := layF l0 e0 k0 v0 d0 i0 a0 25 w
  have B := below1 w (.cells #[.int .u64 l0, .int .u32 e0, .int .i64 k0, .int .u64 v0, .int .u64 d0, .string i0, .string a0] 25)
  clear hi0 ha0
  go_enter Try.func4, Try.ntmps4
  go_wp2_with fail
  refine (C0.out _).mono ?_
  rintro e' w1 ⟨rfl, hb⟩
  replace G0 := G0.later hb
  replace B := Wd.Ge.trans B hb
  clear hb
  obtain ⟨cg, c0, c1, c2, c3, c4, c5, c6⟩ := G0.L
  have z0 := G0.F 0 (by omega)
  have z1 := G0.F 1 (by omega)
  have z2 := G0.F 2 (by omega)
  have z3 := G0.F 3 (by omega)
  have z4 := G0.F 4 (by omega)
  have z5 := G0.F 5 (by omega)
  have z6 := G0.F 6 (by omega)
  go_upto_region 2 with fail
  clear c0 c1 c2 c3 c4 c5 c6 cg
  clear z0 z1 z2 z3 z4 z5 z6
  replace G0 := G0.put (l := l0) (e := e0) (k := k0) (v := v0) (d := d0) (i := x0) (a := y0)
  replace B := below7 l0 e0 k0 v0 d0 x0 y0 B (Nat.le_refl w.heap.size)
  generalize (((((((w1.setCell ⟨w.heap.size, 0, none⟩ (.int .u64 l0)).setCell ⟨w.heap.size, 1, none⟩ (.int .u32 e0)).setCell ⟨w.heap.size, 2, none⟩ (.int .i64 k0)).setCell ⟨w.heap.size, 3, none⟩ (.int .u64 v0)).setCell ⟨w.heap.size, 4, none⟩ (.int .u64 d0)).setCell ⟨w.heap.size, 5, none⟩ (.string x0)).setCell ⟨w.heap.size, 6, none⟩ (.string y0)) = w2 at *
  clear C0
  go_upto_region 3 with fail
  rw [ET.out]
  obtain ⟨cg, c0, c1, c2, c3, c4, c5, c6⟩ := G0.L
  go_wp2_with fail
  refine (E0.out _).mono ?_
  rintro e' w3 ⟨rfl, hb⟩
  clear c0 c1 c2 c3 c4 c5 c6 cg
  replace G0 := G0.later hb
  replace B := Wd.Ge.trans B hb
  clear hb
  obtain ⟨cg, c0, c1, c2, c3, c4, c5, c6⟩ := G0.L
  go_wp2_with fail
  refine (R0.out _).mono ?_
  rintro e' w4 ⟨rfl, hb⟩
  clear c0 c1 c2 c3 c4 c5 c6 cg
  replace G0 := G0.later hb
  replace B := Wd.Ge.trans B hb
  clear hb
  go_wp2_with fail
  refine (T0.out _).mono ?_
  rintro e' w11 ⟨rfl, hb⟩
  replace B := Wd.Ge.trans B hb
  clear hb
  have M5 := layR l1 e1 k1 v1 d1 i1 a1 25 w11
  have hb := below1 w11 (.cells #[.int .u64 l1, .int .u32 e1, .int .i64 k1, .int .u64 v1, .int .u64 d1, .string i1, .string a1] 25)
  replace B := Wd.Ge.trans B hb
  clear hb
  go_upto_region 13 with fail
  generalize w11.alloc (.cells #[.int .u64 l1, .int .u32 e1, .int .i64 k1, .int .u64 v1, .int .u64 d1, .string i1, .string a1] 25) = w12 at *
  generalize w11.heap.size = b13 at *
  obtain ⟨tg, t0, t1, t2, t3, t4, t5, t6⟩ := M5
  have M5 : LiesR w12 b13 l1 e1 k1 v1 d1 i1 a1 := ⟨tg, t0, t1, t2, t3, t4, t5, t6⟩
  go_wp2_with fail
  refine (T1.out _).mono ?_
  rintro e' w13 ⟨rfl, hb⟩
  clear t0 t1 t2 t3 t4 t5 t6 tg
  replace M5 := M5.later hb
  replace B := Wd.Ge.trans B hb
  clear hb
  obtain ⟨tg, t0, t1, t2, t3, t4, t5, t6⟩ := M5
  have hq := eq_self T
  go_wp2_with fail
  refine (T2.out _).mono ?_
  rintro e' w14 ⟨rfl, hb⟩
  replace B := Wd.Ge.trans B hb
  clear hb
  go_wp2_with fail
  refine (fixed_any _).mono ?_
  rintro e' w15 ⟨rfl, hb⟩
  go_wp2_with fail
  go_ret
  exact ⟨rfl, Wd.Ge.trans B hb⟩

set_option maxRecDepth 100000 in
set_option maxHeartbeats 8000000 in
theorem yn (l0 e0 k0 v0 d0 : Int) (i0 a0 : ByteArray) (s : ByteArray) (w : World) (hl0 : 0 ≤ l0 ∧ l0 < 18446744073709551616) (he0 : 0 ≤ e0 ∧ e0 < 4294967296) (hk0 : -9223372036854775808 ≤ k0 ∧ k0 ≤ 9223372036854775807) (hv0 : 0 ≤ v0 ∧ v0 < 18446744073709551616) (hd0 : 0 ≤ d0 ∧ d0 < 18446744073709551616) (hi0 : i0.size ≤ maxLen) (ha0 : a0.size ≤ maxLen) (hs : s.size ≤ maxLen) (T : ByteArray) (ET : Hid (s.extract 0 (min (s.size : Int) 130).toNat = T)) (zT : T.size ≤ 130) (h : okR ⟨l0, e0, k0, v0, d0, (cut80 i0).data.toList, (cut80 a0).data.toList⟩ = true) (ht : isSec T.data.toList = false) :
    Calls Try.prog 4 #[.agg #[.int .u64 l0, .int .u32 e0, .int .i64 k0, .int .u64 v0, .int .u64 d0, .string i0, .string a0], .string s] w fun e' w' => e' = .returned (.bool true) ∧ Below w.heap.size w w' := by
  obtain ⟨S, HS⟩ : ∃ S : ByteArray, secL ⟨l0, e0, k0, v0, d0, (cut80 i0).data.toList, (cut80 a0).data.toList⟩ = S.data.toList := ⟨⟨(secL ⟨l0, e0, k0, v0, d0, (cut80 i0).data.toList, (cut80 a0).data.toList⟩).toArray⟩, by simp⟩
  have hf : Fits ⟨l0, e0, k0, v0, d0, (cut80 i0).data.toList, (cut80 a0).data.toList⟩ := okA (i := cut80 i0) (a := cut80 a0) hl0 he0 hv0 hd0
  have E0 := Lib.hid (fun w => encode_yes l0 e0 k0 v0 d0 (cut80 i0) (cut80 a0) S w hf h HS)
  have R0 := Lib.hid (fun w => right_any l0 e0 k0 v0 d0 (cut80 i0) (cut80 a0) true w (cut80_le i0) (cut80_le a0) h)
  have hz : S.size = 128 := by rw [Go.Lib.size_eq, ← HS]; exact secL_len h
  have hzi : (S.size : Int) = 128 := by omega
  have hc : cutR S.data.toList = ⟨l0, e0, k0, v0, d0, (cut80 i0).data.toList, (cut80 a0).data.toList⟩ := by rw [← HS]; exact cutR_secL hf h
  have hsec : isSec S.data.toList = true := by rw [← HS]; exact isSec_secL hf h
  have D0 := Lib.hid (fun w => decode_yes S l0 e0 k0 v0 d0 (cut80 i0) (cut80 a0) w (by omega) hc hsec)
  have N0 := Lib.hid (fun w => next_yes S l0 e0 k0 v0 d0 (cut80 i0) (cut80 a0) w (by omega) hc hsec)
  have N1 := Lib.hid (fun w => next_not S l0 e0 k0 v0 d0 (cut80 i0) (cut80 a0) ((l0 + 1) % 18446744073709551616) e0 w (by omega) hc hsec (by omega))
  unfold maxLen at hs
  clear hf HS hc hsec
  have T0 := Lib.hid (fun w => decode_no T w (by omega) ht)
  clear ht
  clear h
  have C0 := Lib.hid (fun w => lawcut_any l0 e0 k0 v0 d0 i0 a0 w hi0 ha0)
  have zi0 := cut80_size i0
  have za0 := cut80_size a0
  generalize cut80 i0 = x0 at *
  generalize cut80 a0 = y0 at *
  have G0 := layF l0 e0 k0 v0 d0 i0 a0 25 w
  have B := below1 w (.cells #[.int .u64 l0, .int .u32 e0, .int .i64 k0, .int .u64 v0, .int .u64 d0, .string i0, .string a0] 25)
  clear hi0 ha0
  go_enter Try.func4, Try.ntmps4
  go_wp2_with fail
  refine (C0.out _).mono ?_
  rintro e' w1 ⟨rfl, hb⟩
  replace G0 := G0.later hb
  replace B := Wd.Ge.trans B hb
  clear hb
  obtain ⟨cg, c0, c1, c2, c3, c4, c5, c6⟩ := G0.L
  have z0 := G0.F 0 (by omega)
  have z1 := G0.F 1 (by omega)
  have z2 := G0.F 2 (by omega)
  have z3 := G0.F 3 (by omega)
  have z4 := G0.F 4 (by omega)
  have z5 := G0.F 5 (by omega)
  have z6 := G0.F 6 (by omega)
  go_upto_region 2 with fail
  clear c0 c1 c2 c3 c4 c5 c6 cg
  clear z0 z1 z2 z3 z4 z5 z6
  replace G0 := G0.put (l := l0) (e := e0) (k := k0) (v := v0) (d := d0) (i := x0) (a := y0)
  replace B := below7 l0 e0 k0 v0 d0 x0 y0 B (Nat.le_refl w.heap.size)
  generalize (((((((w1.setCell ⟨w.heap.size, 0, none⟩ (.int .u64 l0)).setCell ⟨w.heap.size, 1, none⟩ (.int .u32 e0)).setCell ⟨w.heap.size, 2, none⟩ (.int .i64 k0)).setCell ⟨w.heap.size, 3, none⟩ (.int .u64 v0)).setCell ⟨w.heap.size, 4, none⟩ (.int .u64 d0)).setCell ⟨w.heap.size, 5, none⟩ (.string x0)).setCell ⟨w.heap.size, 6, none⟩ (.string y0)) = w2 at *
  clear C0
  go_upto_region 3 with fail
  rw [ET.out]
  obtain ⟨cg, c0, c1, c2, c3, c4, c5, c6⟩ := G0.L
  go_wp2_with fail
  refine (E0.out _).mono ?_
  rintro e' w3 ⟨rfl, hb⟩
  clear c0 c1 c2 c3 c4 c5 c6 cg
  replace G0 := G0.later hb
  replace B := Wd.Ge.trans B hb
  clear hb
  obtain ⟨cg, c0, c1, c2, c3, c4, c5, c6⟩ := G0.L
  go_wp2_with fail
  refine (R0.out _).mono ?_
  rintro e' w4 ⟨rfl, hb⟩
  clear c0 c1 c2 c3 c4 c5 c6 cg
  replace G0 := G0.later hb
  replace B := Wd.Ge.trans B hb
  clear hb
  go_wp2_with fail
  refine (D0.out _).mono ?_
  rintro e' w5 ⟨rfl, hb⟩
  replace G0 := G0.later hb
  replace B := Wd.Ge.trans B hb
  clear hb
  have M1 := layR l0 e0 k0 v0 d0 x0 y0 25 w5
  have hb := below1 w5 (.cells #[.int .u64 l0, .int .u32 e0, .int .i64 k0, .int .u64 v0, .int .u64 d0, .string x0, .string y0] 25)
  replace G0 := G0.later hb
  replace B := Wd.Ge.trans B hb
  clear hb
  go_upto_region 8 with fail
  generalize w5.alloc (.cells #[.int .u64 l0, .int .u32 e0, .int .i64 k0, .int .u64 v0, .int .u64 d0, .string x0, .string y0] 25) = w6 at *
  generalize w5.heap.size = b7 at *
  obtain ⟨cg, c0, c1, c2, c3, c4, c5, c6⟩ := G0.L
  go_wp2_with fail
  refine (N0.out _).mono ?_
  rintro e' w7 ⟨rfl, hb⟩
  clear c0 c1 c2 c3 c4 c5 c6 cg
  replace G0 := G0.later hb
  replace M1 := M1.later hb
  replace B := Wd.Ge.trans B hb
  clear hb
  have M2 := layR l0 e0 k0 v0 d0 x0 y0 25 w7
  have hb := below1 w7 (.cells #[.int .u64 l0, .int .u32 e0, .int .i64 k0, .int .u64 v0, .int .u64 d0, .string x0, .string y0] 25)
  replace G0 := G0.later hb
  replace M1 := M1.later hb
  replace B := Wd.Ge.trans B hb
  clear hb
  go_upto_region 9 with fail
  generalize w7.alloc (.cells #[.int .u64 l0, .int .u32 e0, .int .i64 k0, .int .u64 v0, .int .u64 d0, .string x0, .string y0] 25) = w8 at *
  generalize w7.heap.size = b9 at *
  obtain ⟨cg, c0, c1, c2, c3, c4, c5, c6⟩ := G0.L
  go_wp2_with fail
  refine (N1.out _).mono ?_
  rintro e' w9 ⟨rfl, hb⟩
  clear c0 c1 c2 c3 c4 c5 c6 cg
  replace G0 := G0.later hb
  replace M1 := M1.later hb
  replace M2 := M2.later hb
  replace B := Wd.Ge.trans B hb
  clear hb
  have M4 := layR 0 0 0 0 0 ⟨#[]⟩ ⟨#[]⟩ 25 w9
  have hb := below1 w9 (.cells #[.int .u64 0, .int .u32 0, .int .i64 0, .int .u64 0, .int .u64 0, .string ⟨#[]⟩, .string ⟨#[]⟩] 25)
  replace G0 := G0.later hb
  replace M1 := M1.later hb
  replace M2 := M2.later hb
  replace B := Wd.Ge.trans B hb
  clear hb
  go_upto_region 10 with fail
  generalize w9.alloc (.cells #[.int .u64 0, .int .u32 0, .int .i64 0, .int .u64 0, .int .u64 0, .string ⟨#[]⟩, .string ⟨#[]⟩] 25) = w10 at *
  generalize w9.heap.size = b11 at *
  obtain ⟨cg, c0, c1, c2, c3, c4, c5, c6⟩ := G0.L
  obtain ⟨mg, m0, m1, m2, m3, m4, m5, m6⟩ := M1
  obtain ⟨ng, n0, n1, n2, n3, n4, n5, n6⟩ := M2
  go_wp2_with fail
  refine (T0.out _).mono ?_
  rintro e' w11 ⟨rfl, hb⟩
  replace B := Wd.Ge.trans B hb
  clear hb
  have M5 := layR 0 0 0 0 0 ⟨#[]⟩ ⟨#[]⟩ 25 w11
  have hb := below1 w11 (.cells #[.int .u64 0, .int .u32 0, .int .i64 0, .int .u64 0, .int .u64 0, .string ⟨#[]⟩, .string ⟨#[]⟩] 25)
  replace B := Wd.Ge.trans B hb
  clear hb
  go_upto_region 13 with fail
  generalize w11.alloc (.cells #[.int .u64 0, .int .u32 0, .int .i64 0, .int .u64 0, .int .u64 0, .string ⟨#[]⟩, .string ⟨#[]⟩] 25) = w12 at *
  generalize w11.heap.size = b13 at *
  obtain ⟨tg, t0, t1, t2, t3, t4, t5, t6⟩ := M5
  go_wp2_with fail
  refine (fixed_any _).mono ?_
  rintro e' w13 ⟨rfl, hb⟩
  go_wp2_with fail
  go_ret
  exact ⟨rfl, Wd.Ge.trans B hb⟩

set_option maxRecDepth 100000 in
set_option maxHeartbeats 8000000 in
theorem yy (l0 e0 k0 v0 d0 : Int) (i0 a0 : ByteArray) (s : ByteArray) (w : World) (hl0 : 0 ≤ l0 ∧ l0 < 18446744073709551616) (he0 : 0 ≤ e0 ∧ e0 < 4294967296) (hk0 : -9223372036854775808 ≤ k0 ∧ k0 ≤ 9223372036854775807) (hv0 : 0 ≤ v0 ∧ v0 < 18446744073709551616) (hd0 : 0 ≤ d0 ∧ d0 < 18446744073709551616) (hi0 : i0.size ≤ maxLen) (ha0 : a0.size ≤ maxLen) (hs : s.size ≤ maxLen) (T : ByteArray) (ET : Hid (s.extract 0 (min (s.size : Int) 130).toNat = T)) (zT : T.size ≤ 130) (h : okR ⟨l0, e0, k0, v0, d0, (cut80 i0).data.toList, (cut80 a0).data.toList⟩ = true) (l1 e1 k1 v1 d1 : Int) (i1 a1 : ByteArray) (hc1 : cutR T.data.toList = ⟨l1, e1, k1, v1, d1, i1.data.toList, a1.data.toList⟩) (ht : isSec T.data.toList = true) :
    Calls Try.prog 4 #[.agg #[.int .u64 l0, .int .u32 e0, .int .i64 k0, .int .u64 v0, .int .u64 d0, .string i0, .string a0], .string s] w fun e' w' => e' = .returned (.bool true) ∧ Below w.heap.size w w' := by
  obtain ⟨S, HS⟩ : ∃ S : ByteArray, secL ⟨l0, e0, k0, v0, d0, (cut80 i0).data.toList, (cut80 a0).data.toList⟩ = S.data.toList := ⟨⟨(secL ⟨l0, e0, k0, v0, d0, (cut80 i0).data.toList, (cut80 a0).data.toList⟩).toArray⟩, by simp⟩
  have hf : Fits ⟨l0, e0, k0, v0, d0, (cut80 i0).data.toList, (cut80 a0).data.toList⟩ := okA (i := cut80 i0) (a := cut80 a0) hl0 he0 hv0 hd0
  have E0 := Lib.hid (fun w => encode_yes l0 e0 k0 v0 d0 (cut80 i0) (cut80 a0) S w hf h HS)
  have R0 := Lib.hid (fun w => right_any l0 e0 k0 v0 d0 (cut80 i0) (cut80 a0) true w (cut80_le i0) (cut80_le a0) h)
  have hz : S.size = 128 := by rw [Go.Lib.size_eq, ← HS]; exact secL_len h
  have hzi : (S.size : Int) = 128 := by omega
  have hc : cutR S.data.toList = ⟨l0, e0, k0, v0, d0, (cut80 i0).data.toList, (cut80 a0).data.toList⟩ := by rw [← HS]; exact cutR_secL hf h
  have hsec : isSec S.data.toList = true := by rw [← HS]; exact isSec_secL hf h
  have D0 := Lib.hid (fun w => decode_yes S l0 e0 k0 v0 d0 (cut80 i0) (cut80 a0) w (by omega) hc hsec)
  have N0 := Lib.hid (fun w => next_yes S l0 e0 k0 v0 d0 (cut80 i0) (cut80 a0) w (by omega) hc hsec)
  have N1 := Lib.hid (fun w => next_not S l0 e0 k0 v0 d0 (cut80 i0) (cut80 a0) ((l0 + 1) % 18446744073709551616) e0 w (by omega) hc hsec (by omega))
  unfold maxLen at hs
  clear hf HS hc hsec
  have hf1 := cutR_fits T.data.toList
  obtain ⟨ho1, hq1⟩ := (isSec_iff _).1 ht
  have T0 := Lib.hid (fun w => decode_yes T l1 e1 k1 v1 d1 i1 a1 w (by omega) hc1 ht)
  rw [hc1] at hf1 ho1 hq1
  have T1 := Lib.hid (fun w => encode_yes l1 e1 k1 v1 d1 i1 a1 T w hf1 ho1 hq1)
  have hzi1 : i1.size ≤ maxLen := by
    have := okR_i ho1
    simp only [← Go.Lib.size_eq] at this
    unfold maxLen; omega
  have hza1 : a1.size ≤ maxLen := by
    have := okR_a ho1
    simp only [← Go.Lib.size_eq] at this
    unfold maxLen; omega
  have T2 := Lib.hid (fun w => right_any l1 e1 k1 v1 d1 i1 a1 true w hzi1 hza1 ho1)
  clear ht hf1 ho1 hq1 hc1 hzi1 hza1
  clear h
  have C0 := Lib.hid (fun w => lawcut_any l0 e0 k0 v0 d0 i0 a0 w hi0 ha0)
  have zi0 := cut80_size i0
  have za0 := cut80_size a0
  generalize cut80 i0 = x0 at *
  generalize cut80 a0 = y0 at *
  have G0 := layF l0 e0 k0 v0 d0 i0 a0 25 w
  have B := below1 w (.cells #[.int .u64 l0, .int .u32 e0, .int .i64 k0, .int .u64 v0, .int .u64 d0, .string i0, .string a0] 25)
  clear hi0 ha0
  go_enter Try.func4, Try.ntmps4
  go_wp2_with fail
  refine (C0.out _).mono ?_
  rintro e' w1 ⟨rfl, hb⟩
  replace G0 := G0.later hb
  replace B := Wd.Ge.trans B hb
  clear hb
  obtain ⟨cg, c0, c1, c2, c3, c4, c5, c6⟩ := G0.L
  have z0 := G0.F 0 (by omega)
  have z1 := G0.F 1 (by omega)
  have z2 := G0.F 2 (by omega)
  have z3 := G0.F 3 (by omega)
  have z4 := G0.F 4 (by omega)
  have z5 := G0.F 5 (by omega)
  have z6 := G0.F 6 (by omega)
  go_upto_region 2 with fail
  clear c0 c1 c2 c3 c4 c5 c6 cg
  clear z0 z1 z2 z3 z4 z5 z6
  replace G0 := G0.put (l := l0) (e := e0) (k := k0) (v := v0) (d := d0) (i := x0) (a := y0)
  replace B := below7 l0 e0 k0 v0 d0 x0 y0 B (Nat.le_refl w.heap.size)
  generalize (((((((w1.setCell ⟨w.heap.size, 0, none⟩ (.int .u64 l0)).setCell ⟨w.heap.size, 1, none⟩ (.int .u32 e0)).setCell ⟨w.heap.size, 2, none⟩ (.int .i64 k0)).setCell ⟨w.heap.size, 3, none⟩ (.int .u64 v0)).setCell ⟨w.heap.size, 4, none⟩ (.int .u64 d0)).setCell ⟨w.heap.size, 5, none⟩ (.string x0)).setCell ⟨w.heap.size, 6, none⟩ (.string y0)) = w2 at *
  clear C0
  go_upto_region 3 with fail
  rw [ET.out]
  obtain ⟨cg, c0, c1, c2, c3, c4, c5, c6⟩ := G0.L
  go_wp2_with fail
  refine (E0.out _).mono ?_
  rintro e' w3 ⟨rfl, hb⟩
  clear c0 c1 c2 c3 c4 c5 c6 cg
  replace G0 := G0.later hb
  replace B := Wd.Ge.trans B hb
  clear hb
  obtain ⟨cg, c0, c1, c2, c3, c4, c5, c6⟩ := G0.L
  go_wp2_with fail
  refine (R0.out _).mono ?_
  rintro e' w4 ⟨rfl, hb⟩
  clear c0 c1 c2 c3 c4 c5 c6 cg
  replace G0 := G0.later hb
  replace B := Wd.Ge.trans B hb
  clear hb
  go_wp2_with fail
  refine (D0.out _).mono ?_
  rintro e' w5 ⟨rfl, hb⟩
  replace G0 := G0.later hb
  replace B := Wd.Ge.trans B hb
  clear hb
  have M1 := layR l0 e0 k0 v0 d0 x0 y0 25 w5
  have hb := below1 w5 (.cells #[.int .u64 l0, .int .u32 e0, .int .i64 k0, .int .u64 v0, .int .u64 d0, .string x0, .string y0] 25)
  replace G0 := G0.later hb
  replace B := Wd.Ge.trans B hb
  clear hb
  go_upto_region 8 with fail
  generalize w5.alloc (.cells #[.int .u64 l0, .int .u32 e0, .int .i64 k0, .int .u64 v0, .int .u64 d0, .string x0, .string y0] 25) = w6 at *
  generalize w5.heap.size = b7 at *
  obtain ⟨cg, c0, c1, c2, c3, c4, c5, c6⟩ := G0.L
  go_wp2_with fail
  refine (N0.out _).mono ?_
  rintro e' w7 ⟨rfl, hb⟩
  clear c0 c1 c2 c3 c4 c5 c6 cg
  replace G0 := G0.later hb
  replace M1 := M1.later hb
  replace B := Wd.Ge.trans B hb
  clear hb
  have M2 := layR l0 e0 k0 v0 d0 x0 y0 25 w7
  have hb := below1 w7 (.cells #[.int .u64 l0, .int .u32 e0, .int .i64 k0, .int .u64 v0, .int .u64 d0, .string x0, .string y0] 25)
  replace G0 := G0.later hb
  replace M1 := M1.later hb
  replace B := Wd.Ge.trans B hb
  clear hb
  go_upto_region 9 with fail
  generalize w7.alloc (.cells #[.int .u64 l0, .int .u32 e0, .int .i64 k0, .int .u64 v0, .int .u64 d0, .string x0, .string y0] 25) = w8 at *
  generalize w7.heap.size = b9 at *
  obtain ⟨cg, c0, c1, c2, c3, c4, c5, c6⟩ := G0.L
  go_wp2_with fail
  refine (N1.out _).mono ?_
  rintro e' w9 ⟨rfl, hb⟩
  clear c0 c1 c2 c3 c4 c5 c6 cg
  replace G0 := G0.later hb
  replace M1 := M1.later hb
  replace M2 := M2.later hb
  replace B := Wd.Ge.trans B hb
  clear hb
  have M4 := layR 0 0 0 0 0 ⟨#[]⟩ ⟨#[]⟩ 25 w9
  have hb := below1 w9 (.cells #[.int .u64 0, .int .u32 0, .int .i64 0, .int .u64 0, .int .u64 0, .string ⟨#[]⟩, .string ⟨#[]⟩] 25)
  replace G0 := G0.later hb
  replace M1 := M1.later hb
  replace M2 := M2.later hb
  replace B := Wd.Ge.trans B hb
  clear hb
  go_upto_region 10 with fail
  generalize w9.alloc (.cells #[.int .u64 0, .int .u32 0, .int .i64 0, .int .u64 0, .int .u64 0, .string ⟨#[]⟩, .string ⟨#[]⟩] 25) = w10 at *
  generalize w9.heap.size = b11 at *
  obtain ⟨cg, c0, c1, c2, c3, c4, c5, c6⟩ := G0.L
  obtain ⟨mg, m0, m1, m2, m3, m4, m5, m6⟩ := M1
  obtain ⟨ng, n0, n1, n2, n3, n4, n5, n6⟩ := M2
  go_wp2_with fail
  refine (T0.out _).mono ?_
  rintro e' w11 ⟨rfl, hb⟩
  replace B := Wd.Ge.trans B hb
  clear hb
  have M5 := layR l1 e1 k1 v1 d1 i1 a1 25 w11
  have hb := below1 w11 (.cells #[.int .u64 l1, .int .u32 e1, .int .i64 k1, .int .u64 v1, .int .u64 d1, .string i1, .string a1] 25)
  replace B := Wd.Ge.trans B hb
  clear hb
  go_upto_region 13 with fail
  generalize w11.alloc (.cells #[.int .u64 l1, .int .u32 e1, .int .i64 k1, .int .u64 v1, .int .u64 d1, .string i1, .string a1] 25) = w12 at *
  generalize w11.heap.size = b13 at *
  obtain ⟨tg, t0, t1, t2, t3, t4, t5, t6⟩ := M5
  have M5 : LiesR w12 b13 l1 e1 k1 v1 d1 i1 a1 := ⟨tg, t0, t1, t2, t3, t4, t5, t6⟩
  go_wp2_with fail
  refine (T1.out _).mono ?_
  rintro e' w13 ⟨rfl, hb⟩
  clear t0 t1 t2 t3 t4 t5 t6 tg
  replace M5 := M5.later hb
  replace B := Wd.Ge.trans B hb
  clear hb
  obtain ⟨tg, t0, t1, t2, t3, t4, t5, t6⟩ := M5
  have hq := eq_self T
  go_wp2_with fail
  refine (T2.out _).mono ?_
  rintro e' w14 ⟨rfl, hb⟩
  replace B := Wd.Ge.trans B hb
  clear hb
  go_wp2_with fail
  refine (fixed_any _).mono ?_
  rintro e' w15 ⟨rfl, hb⟩
  go_wp2_with fail
  go_ret
  exact ⟨rfl, Wd.Ge.trans B hb⟩


theorem walk (l0 e0 k0 v0 d0 : Int) (i0 a0 : ByteArray) (s : ByteArray) (w : World) (hl0 : 0 ≤ l0 ∧ l0 < 18446744073709551616) (he0 : 0 ≤ e0 ∧ e0 < 4294967296) (hk0 : -9223372036854775808 ≤ k0 ∧ k0 ≤ 9223372036854775807) (hv0 : 0 ≤ v0 ∧ v0 < 18446744073709551616) (hd0 : 0 ≤ d0 ∧ d0 < 18446744073709551616) (hi0 : i0.size ≤ maxLen) (ha0 : a0.size ≤ maxLen) (w1 : s.size ≤ maxLen) :
    Calls Try.prog 4 #[.agg #[.int .u64 l0, .int .u32 e0, .int .i64 k0, .int .u64 v0, .int .u64 d0, .string i0, .string a0], .string s] w fun e' w' => e' = .returned (.bool true) ∧ Below w.heap.size w w' := by
  obtain ⟨T, ET⟩ : ∃ T, Hid (s.extract 0 (min (s.size : Int) 130).toNat = T) := ⟨_, rfl⟩
  have zT : T.size ≤ 130 := by
    rw [← ET.out, Go.Lib.size_eq, ext_take, List.length_take]; omega
  obtain ⟨l1, e1, k1, v1, d1, i1, a1, hR⟩ : ∃ l e k v d, ∃ i a : ByteArray, cutR T.data.toList = ⟨l, e, k, v, d, i.data.toList, a.data.toList⟩ := ⟨_, _, _, _, _, ⟨(cutR T.data.toList).i.toArray⟩, ⟨(cutR T.data.toList).a.toArray⟩, rfl⟩
  cases h : okR ⟨l0, e0, k0, v0, d0, (cut80 i0).data.toList, (cut80 a0).data.toList⟩ <;> cases ht : isSec T.data.toList
  · exact nn l0 e0 k0 v0 d0 i0 a0 s w hl0 he0 hk0 hv0 hd0 hi0 ha0 w1 T ET zT h ht
  · exact ny l0 e0 k0 v0 d0 i0 a0 s w hl0 he0 hk0 hv0 hd0 hi0 ha0 w1 T ET zT h l1 e1 k1 v1 d1 i1 a1 hR ht
  · exact yn l0 e0 k0 v0 d0 i0 a0 s w hl0 he0 hk0 hv0 hd0 hi0 ha0 w1 T ET zT h ht
  · exact yy l0 e0 k0 v0 d0 i0 a0 s w hl0 he0 hk0 hv0 hd0 hi0 ha0 w1 T ET zT h l1 e1 k1 v1 d1 i1 a1 hR ht

set_option maxRecDepth 100000 in
theorem lifted (os : Os) (started : os.Started) (H : Type) (enc : TypeId × Value → H) :
    ReturnsInHanded {} Try.checked os 4 .any (Rows.recordBackSpec.pre6 enc Try.prog Try.f4 Rows.recordBackRow.domain false) (Rows.recordBackSpec.post enc Try.prog Try.f4 false true false false) := by
  refine returnsInHanded_of_change (C := Try.checked) own started (by kernel_rfl) Try.func4
    (ChangeSpec.witness6 (enc := enc) (C := Try.checked) false ⟨#[], #[.agg #[.int .u64 0, .int .u32 0, .int .i64 0, .int .u64 0, .int .u64 0, .string ByteArray.empty, .string ByteArray.empty], .string ByteArray.empty], []⟩ 8 (by kernel_rfl) (by kernel_rfl) (by kernel_rfl) (by kernel_rfl)) ?_
  intro W base args ds gs before hval0 hW hcnd _
  have hval : ∀ (j : Nat) t v, Try.f4.params[j]? = some t → args[j]? = some v → Value.okWide Try.prog W .any base t v := hval0
  have hW' := hW
  obtain ⟨p, q, hA0, hV, rfl, hfz, hnd⟩ := hW
  have hA : DataW.TrodAll enc Try.prog W 0 (fun _ => true) true Try.f4.params.toList args.toList ds p := hA0
  rw [Try.params4] at hA hval
  obtain ⟨v0, vs0, d0, ds0, p0, q0, hargs, rfl, rfl, h0, r0⟩ := trodAll_cons hA
  obtain ⟨v1, vs1, d1, ds1, p1, q1, rfl, rfl, rfl, h1, r1⟩ := trodAll_cons r0
  obtain ⟨rfl, rfl, rfl⟩ := trodAll_nil r1
  obtain rfl : args = #[v0, v1] := by cases args; simp_all
  obtain ⟨rfl, rfl⟩ := trodVars_none hV
  obtain ⟨l0, e0, k0, v0, d0, i0, a0, rfl, hl0, he0, hk0, hv0, hd0, hi0, ha0⟩ := open_rec (hval 0 25 v0 rfl rfl) h0
  obtain ⟨a1, rfl, rfl, rfl, w1⟩ := open_string Try.underlying9 (hval 1 9 v1 rfl rfl) h1
  clear hA0 hval0
  try simp only [List.append_nil] at hW'
  try simp only [List.nil_append] at hW'
  have hlt := fun x hx => hW'.lt x hx
  refine (walk l0 e0 k0 v0 d0 i0 a0 a1 W hl0 he0 hk0 hv0 hd0 hi0 ha0 w1).mono fun e W' ⟨he, hg⟩ => ?_
  subst he
  refine ⟨_, rfl, post_mem hW' (fun _ _ _ => (trodAll_cons_mk (shut_bool Try.underlying4 _) trodAll_mk0)) (fun sp hsp => ?_) (fun _ => rfl) hg (ok_one (by kernel_rfl) rfl (okWide_bool_mk Try.underlying4 _))⟩
  have hall := (trodAll_cons_mk (arg_same (sp := sp) laid (by kernel_rfl) (of_decide_eq_true (by kernel_rfl)) h0 hg (by intro x hx; simp_all) hlt hsp) (trodAll_cons_mk (arg_same (sp := sp) laid (by kernel_rfl) (of_decide_eq_true (by kernel_rfl)) h1 hg (by intro x hx; simp_all) hlt hsp) trodAll_mk0))
  try simp only [List.append_nil] at hall
  try simp only [List.nil_append] at hall
  exact hall

theorem over : Rows.recordBackRow.holds Try.pinned (OpenSpec.ofChange Rows.recordBackSpec) :=
  OpenClaim.holds_of_wide 4 Try.f4 rfl rfl rfl rfl rfl rfl rfl ⟨rfl, rfl, rfl, rfl, rfl⟩ rfl rfl rfl rfl rfl (by kernel_rfl) Try.func4 (by kernel_rfl)
    (of_decide_eq_true (by kernel_rfl)) (by unfold Func.isWrapper; first | (rw [if_pos (by decide +kernel)]; kernel_rfl) | (rw [if_neg (by decide +kernel)]; exact ⟨rfl, rfl⟩))
    (fun os started H enc _ => lifted os started H enc)

theorem proved : Rows.RecordBackSaid := over
#print axioms proved
end Go.Proofs.Ytgpcfdkblkkpeaa.recordBack
