/- For every two checkpoints the statement CkptBest about ckpt.Best returns true, and changes nothing. Conditions: none. -/
import Derived.Test.YtdnkhjikfdalbaaCpP
import Derived.Test.YtdnkhjikfdalbaaCpO
import Derived.Deep.DeepCutAuto
import Derived.Deep.LoopGhost
import Derived.StillTailTactics
import Derived.WalkSmall
import Derived.ProofKit
import Derived.OpenShut
import Derived.ShutString
import Derived.SizedLaws
namespace Go.Proofs.Ytdnkhjikfdalbaa.ckptBest
open Go.ChangeShapes Go.WideShapes Go.ChangeAt Go.RowKit Go.Lib Wd Cr
open Go.ChangeMaps (open_string shut_string)
set_option linter.unusedVariables false

theorem own : ownKnob Try.prog.godebug = none := by kernel_rfl
theorem laid : laidOutB Try.prog = true := by kernel_rfl

set_option maxRecDepth 100000 in
set_option maxHeartbeats 8000000 in
theorem no0 (g0 e0 l0 v0 : Int) (A0 : Option Addr) (m0 p0 : Nat) (B0 : Option Addr) (k0 q0 : Nat) (o0 n0 : List Int) (g1 e1 l1 v1 : Int) (A1 : Option Addr) (m1 p1 : Nat) (B1 : Option Addr) (k1 q1 : Nat) (o1 n1 : List Int) (S0 S1 : ByteArray) (w : World) (hg0 : 0 ≤ g0 ∧ g0 < 18446744073709551616) (he0 : 0 ≤ e0 ∧ e0 < 4294967296) (hl0 : 0 ≤ l0 ∧ l0 < 18446744073709551616) (hv0 : 0 ≤ v0 ∧ v0 < 18446744073709551616) (sa0 : Sl w A0 m0 o0) (sb0 : Sl w B0 k0 n0) (hm0 : m0 ≤ maxLen ∧ k0 ≤ maxLen) (hp0 : m0 ≤ p0 ∧ k0 ≤ q0) (hg1 : 0 ≤ g1 ∧ g1 < 18446744073709551616) (he1 : 0 ≤ e1 ∧ e1 < 4294967296) (hl1 : 0 ≤ l1 ∧ l1 < 18446744073709551616) (hv1 : 0 ≤ v1 ∧ v1 < 18446744073709551616) (sa1 : Sl w A1 m1 o1) (sb1 : Sl w B1 k1 n1) (hm1 : m1 ≤ maxLen ∧ k1 ≤ maxLen) (hp1 : m1 ≤ p1 ∧ k1 ≤ q1) (E0 : Hid (EncAt w g0 e0 l0 v0 A0 (cut20 m0) p0 B0 (cut20 k0) q0 S0 5)) (y : Int) (E1 : Hid (EncAt w g1 e1 l1 v1 A1 (cut20 m1) p1 B1 (cut20 k1) q1 S1 y)) :
    Calls Try.prog 6 #[.agg #[.int .u64 g0, .int .u32 e0, .int .u64 l0, .int .u64 v0, .slice A0 m0 p0, .slice B0 k0 q0], .agg #[.int .u64 g1, .int .u32 e1, .int .u64 l1, .int .u64 v1, .slice A1 m1 p1, .slice B1 k1 q1]] w fun e' w' => e' = .returned (.bool true) ∧ Below w.heap.size w w' := by
  have B := below1 w (.cells #[.int .u64 g0, .int .u32 e0, .int .u64 l0, .int .u64 v0, .slice A0 m0 p0, .slice B0 k0 q0] 26)
  have K0 : Blk (w.alloc (.cells #[.int .u64 g0, .int .u32 e0, .int .u64 l0, .int .u64 v0, .slice A0 m0 p0, .slice B0 k0 q0] 26)) (w.heap.size) 26 (csC g0 e0 l0 v0 A0 m0 p0 B0 k0 q0) := blk_new w 26 (csC g0 e0 l0 v0 A0 m0 p0 B0 k0 q0) (w.heap.size) (by simp)
  have hb := below1 (w.alloc (.cells #[.int .u64 g0, .int .u32 e0, .int .u64 l0, .int .u64 v0, .slice A0 m0 p0, .slice B0 k0 q0] 26)) (.cells #[.int .u64 g1, .int .u32 e1, .int .u64 l1, .int .u64 v1, .slice A1 m1 p1, .slice B1 k1 q1] 26)
  replace K0 := K0.later hb
  replace B := Wd.Ge.trans B hb
  clear hb
  have K1 : Blk ((w.alloc (.cells #[.int .u64 g0, .int .u32 e0, .int .u64 l0, .int .u64 v0, .slice A0 m0 p0, .slice B0 k0 q0] 26)).alloc (.cells #[.int .u64 g1, .int .u32 e1, .int .u64 l1, .int .u64 v1, .slice A1 m1 p1, .slice B1 k1 q1] 26)) (w.heap.size + 1) 26 (csC g1 e1 l1 v1 A1 m1 p1 B1 k1 q1) := blk_new (w.alloc (.cells #[.int .u64 g0, .int .u32 e0, .int .u64 l0, .int .u64 v0, .slice A0 m0 p0, .slice B0 k0 q0] 26)) 26 (csC g1 e1 l1 v1 A1 m1 p1 B1 k1 q1) (w.heap.size + 1) (by simp)
  have C0 := Lib.hid (fun w => lawcut_any g0 e0 l0 v0 A0 m0 p0 B0 k0 q0 w hm0.1 hm0.2 hp0.1 hp0.2)
  have C1 := Lib.hid (fun w => lawcut_any g1 e1 l1 v1 A1 m1 p1 B1 k1 q1 w hm1.1 hm1.2 hp1.1 hp1.2)
  obtain ⟨wa, EW⟩ : ∃ wa, Hid (((w.alloc (.cells #[.int .u64 g0, .int .u32 e0, .int .u64 l0, .int .u64 v0, .slice A0 m0 p0, .slice B0 k0 q0] 26)).alloc (.cells #[.int .u64 g1, .int .u32 e1, .int .u64 l1, .int .u64 v1, .slice A1 m1 p1, .slice B1 k1 q1] 26)) = wa) := ⟨_, rfl⟩
  rw [EW.out] at B K0 K1
  go_enter Try.func6, Try.ntmps6
  go_upto_region 1 with fail
  rw [EW.out]
  clear EW
  generalize cut20 m0 = c0 at *
  generalize cut20 k0 = d0 at *
  generalize cut20 m1 = c1 at *
  generalize cut20 k1 = d1 at *
  have HK := Lib.hid K0
  go_wp2_with (with_reducible refine load_c rfl (.tmp 2) rfl (w.heap.size) rfl HK.out ?_)
  refine (C0.out _).mono ?_
  rintro e' u0 ⟨rfl, hb⟩
  replace K0 := K0.later hb
  replace K1 := K1.later hb
  replace B := Wd.Ge.trans B hb
  clear hb
  clear HK
  have HK := Lib.hid K0
  go_upto_region 2 with (with_reducible refine store_c rfl (.tmp 2) (.tmp 19) rfl (w.heap.size) rfl rfl HK.out ?_)
  replace K1 := K1.far (g' := w.heap.size) (by omega) (csC g0 e0 l0 v0 A0 c0 p0 B0 d0 q0)
  replace K0 := K0.row (csC g0 e0 l0 v0 A0 c0 p0 B0 d0 q0)
  replace B := below_set B (show w.heap.size ≤ w.heap.size by omega) (csC g0 e0 l0 v0 A0 c0 p0 B0 d0 q0)
  generalize u0.setRow (w.heap.size) (csC g0 e0 l0 v0 A0 c0 p0 B0 d0 q0) = z0 at *
  clear HK C0
  have HK := Lib.hid K1
  go_wp2_with (with_reducible refine load_c rfl (.tmp 3) rfl (w.heap.size + 1) rfl HK.out ?_)
  refine (C1.out _).mono ?_
  rintro e' u1 ⟨rfl, hb⟩
  replace K0 := K0.later hb
  replace K1 := K1.later hb
  replace B := Wd.Ge.trans B hb
  clear hb
  clear HK
  have HK := Lib.hid K1
  go_upto_region 3 with (with_reducible refine store_c rfl (.tmp 3) (.tmp 21) rfl (w.heap.size + 1) rfl rfl HK.out ?_)
  replace K0 := K0.far (g' := w.heap.size + 1) (by omega) (csC g1 e1 l1 v1 A1 c1 p1 B1 d1 q1)
  replace K1 := K1.row (csC g1 e1 l1 v1 A1 c1 p1 B1 d1 q1)
  replace B := below_set B (show w.heap.size ≤ w.heap.size + 1 by omega) (csC g1 e1 l1 v1 A1 c1 p1 B1 d1 q1)
  generalize u1.setRow (w.heap.size + 1) (csC g1 e1 l1 v1 A1 c1 p1 B1 d1 q1) = z1 at *
  clear HK C1
  have HK := Lib.hid K0
  go_wp2_with (with_reducible refine load_c rfl (.tmp 2) rfl (w.heap.size) rfl HK.out ?_)
  refine (E0.out _ B).mono ?_
  rintro e' w1 ⟨rfl, hb⟩
  replace K0 := K0.later hb
  replace K1 := K1.later hb
  replace B := Wd.Ge.trans B hb
  clear hb
  clear HK
  have HK := Lib.hid K1
  go_wp2_with (with_reducible refine load_c rfl (.tmp 3) rfl (w.heap.size + 1) rfl HK.out ?_)
  refine (E1.out _ B).mono ?_
  rintro e' w2 ⟨rfl, hb⟩
  replace K0 := K0.later hb
  replace K1 := K1.later hb
  replace B := Wd.Ge.trans B hb
  clear hb
  clear HK E0 E1
  go_wp2_with fail
  refine (fixed_any _).mono ?_
  rintro e' w3 ⟨rfl, hb⟩
  go_wp2_with fail
  go_ret
  exact ⟨rfl, Wd.Ge.trans B hb⟩

set_option maxRecDepth 100000 in
set_option maxHeartbeats 8000000 in
theorem no1 (g0 e0 l0 v0 : Int) (A0 : Option Addr) (m0 p0 : Nat) (B0 : Option Addr) (k0 q0 : Nat) (o0 n0 : List Int) (g1 e1 l1 v1 : Int) (A1 : Option Addr) (m1 p1 : Nat) (B1 : Option Addr) (k1 q1 : Nat) (o1 n1 : List Int) (S0 S1 : ByteArray) (w : World) (hg0 : 0 ≤ g0 ∧ g0 < 18446744073709551616) (he0 : 0 ≤ e0 ∧ e0 < 4294967296) (hl0 : 0 ≤ l0 ∧ l0 < 18446744073709551616) (hv0 : 0 ≤ v0 ∧ v0 < 18446744073709551616) (sa0 : Sl w A0 m0 o0) (sb0 : Sl w B0 k0 n0) (hm0 : m0 ≤ maxLen ∧ k0 ≤ maxLen) (hp0 : m0 ≤ p0 ∧ k0 ≤ q0) (hg1 : 0 ≤ g1 ∧ g1 < 18446744073709551616) (he1 : 0 ≤ e1 ∧ e1 < 4294967296) (hl1 : 0 ≤ l1 ∧ l1 < 18446744073709551616) (hv1 : 0 ≤ v1 ∧ v1 < 18446744073709551616) (sa1 : Sl w A1 m1 o1) (sb1 : Sl w B1 k1 n1) (hm1 : m1 ≤ maxLen ∧ k1 ≤ maxLen) (hp1 : m1 ≤ p1 ∧ k1 ≤ q1) (E0 : Hid (EncAt w g0 e0 l0 v0 A0 (cut20 m0) p0 B0 (cut20 k0) q0 S0 0)) (E1 : Hid (EncAt w g1 e1 l1 v1 A1 (cut20 m1) p1 B1 (cut20 k1) q1 S1 5)) :
    Calls Try.prog 6 #[.agg #[.int .u64 g0, .int .u32 e0, .int .u64 l0, .int .u64 v0, .slice A0 m0 p0, .slice B0 k0 q0], .agg #[.int .u64 g1, .int .u32 e1, .int .u64 l1, .int .u64 v1, .slice A1 m1 p1, .slice B1 k1 q1]] w fun e' w' => e' = .returned (.bool true) ∧ Below w.heap.size w w' := by
  have B := below1 w (.cells #[.int .u64 g0, .int .u32 e0, .int .u64 l0, .int .u64 v0, .slice A0 m0 p0, .slice B0 k0 q0] 26)
  have K0 : Blk (w.alloc (.cells #[.int .u64 g0, .int .u32 e0, .int .u64 l0, .int .u64 v0, .slice A0 m0 p0, .slice B0 k0 q0] 26)) (w.heap.size) 26 (csC g0 e0 l0 v0 A0 m0 p0 B0 k0 q0) := blk_new w 26 (csC g0 e0 l0 v0 A0 m0 p0 B0 k0 q0) (w.heap.size) (by simp)
  have hb := below1 (w.alloc (.cells #[.int .u64 g0, .int .u32 e0, .int .u64 l0, .int .u64 v0, .slice A0 m0 p0, .slice B0 k0 q0] 26)) (.cells #[.int .u64 g1, .int .u32 e1, .int .u64 l1, .int .u64 v1, .slice A1 m1 p1, .slice B1 k1 q1] 26)
  replace K0 := K0.later hb
  replace B := Wd.Ge.trans B hb
  clear hb
  have K1 : Blk ((w.alloc (.cells #[.int .u64 g0, .int .u32 e0, .int .u64 l0, .int .u64 v0, .slice A0 m0 p0, .slice B0 k0 q0] 26)).alloc (.cells #[.int .u64 g1, .int .u32 e1, .int .u64 l1, .int .u64 v1, .slice A1 m1 p1, .slice B1 k1 q1] 26)) (w.heap.size + 1) 26 (csC g1 e1 l1 v1 A1 m1 p1 B1 k1 q1) := blk_new (w.alloc (.cells #[.int .u64 g0, .int .u32 e0, .int .u64 l0, .int .u64 v0, .slice A0 m0 p0, .slice B0 k0 q0] 26)) 26 (csC g1 e1 l1 v1 A1 m1 p1 B1 k1 q1) (w.heap.size + 1) (by simp)
  have C0 := Lib.hid (fun w => lawcut_any g0 e0 l0 v0 A0 m0 p0 B0 k0 q0 w hm0.1 hm0.2 hp0.1 hp0.2)
  have C1 := Lib.hid (fun w => lawcut_any g1 e1 l1 v1 A1 m1 p1 B1 k1 q1 w hm1.1 hm1.2 hp1.1 hp1.2)
  obtain ⟨wa, EW⟩ : ∃ wa, Hid (((w.alloc (.cells #[.int .u64 g0, .int .u32 e0, .int .u64 l0, .int .u64 v0, .slice A0 m0 p0, .slice B0 k0 q0] 26)).alloc (.cells #[.int .u64 g1, .int .u32 e1, .int .u64 l1, .int .u64 v1, .slice A1 m1 p1, .slice B1 k1 q1] 26)) = wa) := ⟨_, rfl⟩
  rw [EW.out] at B K0 K1
  go_enter Try.func6, Try.ntmps6
  go_upto_region 1 with fail
  rw [EW.out]
  clear EW
  generalize cut20 m0 = c0 at *
  generalize cut20 k0 = d0 at *
  generalize cut20 m1 = c1 at *
  generalize cut20 k1 = d1 at *
  have HK := Lib.hid K0
  go_wp2_with (with_reducible refine load_c rfl (.tmp 2) rfl (w.heap.size) rfl HK.out ?_)
  refine (C0.out _).mono ?_
  rintro e' u0 ⟨rfl, hb⟩
  replace K0 := K0.later hb
  replace K1 := K1.later hb
  replace B := Wd.Ge.trans B hb
  clear hb
  clear HK
  have HK := Lib.hid K0
  go_upto_region 2 with (with_reducible refine store_c rfl (.tmp 2) (.tmp 19) rfl (w.heap.size) rfl rfl HK.out ?_)
  replace K1 := K1.far (g' := w.heap.size) (by omega) (csC g0 e0 l0 v0 A0 c0 p0 B0 d0 q0)
  replace K0 := K0.row (csC g0 e0 l0 v0 A0 c0 p0 B0 d0 q0)
  replace B := below_set B (show w.heap.size ≤ w.heap.size by omega) (csC g0 e0 l0 v0 A0 c0 p0 B0 d0 q0)
  generalize u0.setRow (w.heap.size) (csC g0 e0 l0 v0 A0 c0 p0 B0 d0 q0) = z0 at *
  clear HK C0
  have HK := Lib.hid K1
  go_wp2_with (with_reducible refine load_c rfl (.tmp 3) rfl (w.heap.size + 1) rfl HK.out ?_)
  refine (C1.out _).mono ?_
  rintro e' u1 ⟨rfl, hb⟩
  replace K0 := K0.later hb
  replace K1 := K1.later hb
  replace B := Wd.Ge.trans B hb
  clear hb
  clear HK
  have HK := Lib.hid K1
  go_upto_region 3 with (with_reducible refine store_c rfl (.tmp 3) (.tmp 21) rfl (w.heap.size + 1) rfl rfl HK.out ?_)
  replace K0 := K0.far (g' := w.heap.size + 1) (by omega) (csC g1 e1 l1 v1 A1 c1 p1 B1 d1 q1)
  replace K1 := K1.row (csC g1 e1 l1 v1 A1 c1 p1 B1 d1 q1)
  replace B := below_set B (show w.heap.size ≤ w.heap.size + 1 by omega) (csC g1 e1 l1 v1 A1 c1 p1 B1 d1 q1)
  generalize u1.setRow (w.heap.size + 1) (csC g1 e1 l1 v1 A1 c1 p1 B1 d1 q1) = z1 at *
  clear HK C1
  have HK := Lib.hid K0
  go_wp2_with (with_reducible refine load_c rfl (.tmp 2) rfl (w.heap.size) rfl HK.out ?_)
  refine (E0.out _ B).mono ?_
  rintro e' w1 ⟨rfl, hb⟩
  replace K0 := K0.later hb
  replace K1 := K1.later hb
  replace B := Wd.Ge.trans B hb
  clear hb
  clear HK
  have HK := Lib.hid K1
  go_wp2_with (with_reducible refine load_c rfl (.tmp 3) rfl (w.heap.size + 1) rfl HK.out ?_)
  refine (E1.out _ B).mono ?_
  rintro e' w2 ⟨rfl, hb⟩
  replace K0 := K0.later hb
  replace K1 := K1.later hb
  replace B := Wd.Ge.trans B hb
  clear hb
  clear HK E0 E1
  go_wp2_with fail
  refine (fixed_any _).mono ?_
  rintro e' w3 ⟨rfl, hb⟩
  go_wp2_with fail
  go_ret
  exact ⟨rfl, Wd.Ge.trans B hb⟩

set_option maxRecDepth 100000 in
set_option maxHeartbeats 16000000 in
theorem eq (g0 e0 l0 v0 : Int) (A0 : Option Addr) (m0 p0 : Nat) (B0 : Option Addr) (k0 q0 : Nat) (o0 n0 : List Int) (g1 e1 l1 v1 : Int) (A1 : Option Addr) (m1 p1 : Nat) (B1 : Option Addr) (k1 q1 : Nat) (o1 n1 : List Int) (S0 S1 : ByteArray) (w : World) (hg0 : 0 ≤ g0 ∧ g0 < 18446744073709551616) (he0 : 0 ≤ e0 ∧ e0 < 4294967296) (hl0 : 0 ≤ l0 ∧ l0 < 18446744073709551616) (hv0 : 0 ≤ v0 ∧ v0 < 18446744073709551616) (sa0 : Sl w A0 m0 o0) (sb0 : Sl w B0 k0 n0) (hm0 : m0 ≤ maxLen ∧ k0 ≤ maxLen) (hp0 : m0 ≤ p0 ∧ k0 ≤ q0) (hg1 : 0 ≤ g1 ∧ g1 < 18446744073709551616) (he1 : 0 ≤ e1 ∧ e1 < 4294967296) (hl1 : 0 ≤ l1 ∧ l1 < 18446744073709551616) (hv1 : 0 ≤ v1 ∧ v1 < 18446744073709551616) (sa1 : Sl w A1 m1 o1) (sb1 : Sl w B1 k1 n1) (hm1 : m1 ≤ maxLen ∧ k1 ≤ maxLen) (hp1 : m1 ≤ p1 ∧ k1 ≤ q1) (E0 : Hid (EncAt w g0 e0 l0 v0 A0 (cut20 m0) p0 B0 (cut20 k0) q0 S0 0)) (E1 : Hid (EncAt w g1 e1 l1 v1 A1 (cut20 m1) p1 B1 (cut20 k1) q1 S1 0)) (D1 : Hid (∀ w, Calls Try.prog 15 #[.string S0, .string S1] w (BestP S0 S1 w))) (D2 : Hid (∀ w, Calls Try.prog 15 #[.string S1, .string S0] w (BestP S1 S0 w))) (D3 : Hid (∀ w, Calls Try.prog 15 #[.string S0, .string ⟨#[]⟩] w (BestP S0 ⟨#[]⟩ w)))
    (be1 : Hid (bestC S0.data.toList S1.data.toList = (⟨g0, e0, l0, v0, o0.take 20, n0.take 20⟩ : Chk) ∧ bestI S0.data.toList S1.data.toList = 0 ∧ bestE S0.data.toList S1.data.toList = 0)) (be2 : Hid (bestC S1.data.toList S0.data.toList = (⟨g1, e1, l1, v1, o1.take 20, n1.take 20⟩ : Chk) ∧ bestI S1.data.toList S0.data.toList = 0 ∧ bestE S1.data.toList S0.data.toList = 0)) (be3 : Hid (bestC S0.data.toList (⟨#[]⟩ : ByteArray).data.toList = (⟨g0, e0, l0, v0, o0.take 20, n0.take 20⟩ : Chk) ∧ bestI S0.data.toList (⟨#[]⟩ : ByteArray).data.toList = 0 ∧ bestE S0.data.toList (⟨#[]⟩ : ByteArray).data.toList = 0)) (hq : (g0 == g1) = true) :
    Calls Try.prog 6 #[.agg #[.int .u64 g0, .int .u32 e0, .int .u64 l0, .int .u64 v0, .slice A0 m0 p0, .slice B0 k0 q0], .agg #[.int .u64 g1, .int .u32 e1, .int .u64 l1, .int .u64 v1, .slice A1 m1 p1, .slice B1 k1 q1]] w fun e' w' => e' = .returned (.bool true) ∧ Below w.heap.size w w' := by
  have SA0 := Lib.hid sa0.cut
  have SB0 := Lib.hid sb0.cut
  have SA1 := Lib.hid sa1.cut
  have SB1 := Lib.hid sb1.cut
  clear sa0 sb0 sa1 sb1
  have B := below1 w (.cells #[.int .u64 g0, .int .u32 e0, .int .u64 l0, .int .u64 v0, .slice A0 m0 p0, .slice B0 k0 q0] 26)
  have K0 : Blk (w.alloc (.cells #[.int .u64 g0, .int .u32 e0, .int .u64 l0, .int .u64 v0, .slice A0 m0 p0, .slice B0 k0 q0] 26)) (w.heap.size) 26 (csC g0 e0 l0 v0 A0 m0 p0 B0 k0 q0) := blk_new w 26 (csC g0 e0 l0 v0 A0 m0 p0 B0 k0 q0) (w.heap.size) (by simp)
  have hb := below1 (w.alloc (.cells #[.int .u64 g0, .int .u32 e0, .int .u64 l0, .int .u64 v0, .slice A0 m0 p0, .slice B0 k0 q0] 26)) (.cells #[.int .u64 g1, .int .u32 e1, .int .u64 l1, .int .u64 v1, .slice A1 m1 p1, .slice B1 k1 q1] 26)
  replace K0 := K0.later hb
  replace B := Wd.Ge.trans B hb
  clear hb
  have K1 : Blk ((w.alloc (.cells #[.int .u64 g0, .int .u32 e0, .int .u64 l0, .int .u64 v0, .slice A0 m0 p0, .slice B0 k0 q0] 26)).alloc (.cells #[.int .u64 g1, .int .u32 e1, .int .u64 l1, .int .u64 v1, .slice A1 m1 p1, .slice B1 k1 q1] 26)) (w.heap.size + 1) 26 (csC g1 e1 l1 v1 A1 m1 p1 B1 k1 q1) := blk_new (w.alloc (.cells #[.int .u64 g0, .int .u32 e0, .int .u64 l0, .int .u64 v0, .slice A0 m0 p0, .slice B0 k0 q0] 26)) 26 (csC g1 e1 l1 v1 A1 m1 p1 B1 k1 q1) (w.heap.size + 1) (by simp)
  have C0 := Lib.hid (fun w => lawcut_any g0 e0 l0 v0 A0 m0 p0 B0 k0 q0 w hm0.1 hm0.2 hp0.1 hp0.2)
  have C1 := Lib.hid (fun w => lawcut_any g1 e1 l1 v1 A1 m1 p1 B1 k1 q1 w hm1.1 hm1.2 hp1.1 hp1.2)
  obtain ⟨wa, EW⟩ : ∃ wa, Hid (((w.alloc (.cells #[.int .u64 g0, .int .u32 e0, .int .u64 l0, .int .u64 v0, .slice A0 m0 p0, .slice B0 k0 q0] 26)).alloc (.cells #[.int .u64 g1, .int .u32 e1, .int .u64 l1, .int .u64 v1, .slice A1 m1 p1, .slice B1 k1 q1] 26)) = wa) := ⟨_, rfl⟩
  rw [EW.out] at B K0 K1
  go_enter Try.func6, Try.ntmps6
  go_upto_region 1 with fail
  rw [EW.out]
  clear EW
  generalize cut20 m0 = c0 at *
  generalize cut20 k0 = d0 at *
  generalize cut20 m1 = c1 at *
  generalize cut20 k1 = d1 at *
  have HK := Lib.hid K0
  go_wp2_with (with_reducible refine load_c rfl (.tmp 2) rfl (w.heap.size) rfl HK.out ?_)
  refine (C0.out _).mono ?_
  rintro e' u0 ⟨rfl, hb⟩
  replace K0 := K0.later hb
  replace K1 := K1.later hb
  replace B := Wd.Ge.trans B hb
  clear hb
  clear HK
  have HK := Lib.hid K0
  go_upto_region 2 with (with_reducible refine store_c rfl (.tmp 2) (.tmp 19) rfl (w.heap.size) rfl rfl HK.out ?_)
  replace K1 := K1.far (g' := w.heap.size) (by omega) (csC g0 e0 l0 v0 A0 c0 p0 B0 d0 q0)
  replace K0 := K0.row (csC g0 e0 l0 v0 A0 c0 p0 B0 d0 q0)
  replace B := below_set B (show w.heap.size ≤ w.heap.size by omega) (csC g0 e0 l0 v0 A0 c0 p0 B0 d0 q0)
  generalize u0.setRow (w.heap.size) (csC g0 e0 l0 v0 A0 c0 p0 B0 d0 q0) = z0 at *
  clear HK C0
  have HK := Lib.hid K1
  go_wp2_with (with_reducible refine load_c rfl (.tmp 3) rfl (w.heap.size + 1) rfl HK.out ?_)
  refine (C1.out _).mono ?_
  rintro e' u1 ⟨rfl, hb⟩
  replace K0 := K0.later hb
  replace K1 := K1.later hb
  replace B := Wd.Ge.trans B hb
  clear hb
  clear HK
  have HK := Lib.hid K1
  go_upto_region 3 with (with_reducible refine store_c rfl (.tmp 3) (.tmp 21) rfl (w.heap.size + 1) rfl rfl HK.out ?_)
  replace K0 := K0.far (g' := w.heap.size + 1) (by omega) (csC g1 e1 l1 v1 A1 c1 p1 B1 d1 q1)
  replace K1 := K1.row (csC g1 e1 l1 v1 A1 c1 p1 B1 d1 q1)
  replace B := below_set B (show w.heap.size ≤ w.heap.size + 1 by omega) (csC g1 e1 l1 v1 A1 c1 p1 B1 d1 q1)
  generalize u1.setRow (w.heap.size + 1) (csC g1 e1 l1 v1 A1 c1 p1 B1 d1 q1) = z1 at *
  clear HK C1
  have HK := Lib.hid K0
  go_wp2_with (with_reducible refine load_c rfl (.tmp 2) rfl (w.heap.size) rfl HK.out ?_)
  refine (E0.out _ B).mono ?_
  rintro e' w1 ⟨rfl, hb⟩
  replace K0 := K0.later hb
  replace K1 := K1.later hb
  replace B := Wd.Ge.trans B hb
  clear hb
  clear HK
  have HK := Lib.hid K1
  go_wp2_with (with_reducible refine load_c rfl (.tmp 3) rfl (w.heap.size + 1) rfl HK.out ?_)
  refine (E1.out _ B).mono ?_
  rintro e' w2 ⟨rfl, hb⟩
  replace K0 := K0.later hb
  replace K1 := K1.later hb
  replace B := Wd.Ge.trans B hb
  clear hb
  clear HK E0 E1
  go_wp2_with fail
  refine (D1.out _).mono ?_
  rintro e' u5 ⟨hb, x, rfl, hx⟩
  replace K0 := K0.later hb
  replace K1 := K1.later hb
  replace B := Wd.Ge.trans B hb
  clear hb
  rw [be1.out.1] at hx
  obtain ⟨A5, m5, p5, B5, k5, q5, rfl, sa5, sb5, _⟩ := hx
  rw [be1.out.2.1, be1.out.2.2]
  dsimp only at sa5 sb5 ⊢
  have F5 : Blk (u5.alloc (.cells #[.int .u64 0, .int .u32 0, .int .u64 0, .int .u64 0, .slice none 0 0, .slice none 0 0] 26)) u5.heap.size 26 (csC 0 0 0 0 none 0 0 none 0 0) := Blk.new u5 26 _
  go_upto_region 8 with (with_reducible refine store_c rfl (.tmp 9) (.tmp 43) rfl u5.heap.size rfl rfl F5 ?_; rw [World.setRow_alloc_new])
  have K5 : Blk (u5.alloc (.cells (csC g0 e0 l0 v0 A5 m5 p5 B5 k5 q5) 26)) u5.heap.size 26 (csC g0 e0 l0 v0 A5 m5 p5 B5 k5 q5) := Blk.new _ _ _
  have hb := below1 u5 (.cells (csC g0 e0 l0 v0 A5 m5 p5 B5 k5 q5) 26)
  replace sa5 := sa5.later hb
  replace sb5 := sb5.later hb
  replace K0 := K0.later hb
  replace K1 := K1.later hb
  replace B := Wd.Ge.trans B hb
  clear hb
  clear F5
  generalize u5.alloc (.cells (csC g0 e0 l0 v0 A5 m5 p5 B5 k5 q5) 26) = y5 at *
  generalize u5.heap.size = b5 at *
  go_wp2_with fail
  refine (D2.out _).mono ?_
  rintro e' u6 ⟨hb, x, rfl, hx⟩
  replace K0 := K0.later hb
  replace K1 := K1.later hb
  replace K5 := K5.later hb
  replace sa5 := sa5.later hb
  replace sb5 := sb5.later hb
  replace B := Wd.Ge.trans B hb
  clear hb
  rw [be2.out.1] at hx
  obtain ⟨A6, m6, p6, B6, k6, q6, rfl, sa6, sb6, _⟩ := hx
  rw [be2.out.2.1, be2.out.2.2]
  dsimp only at sa6 sb6 ⊢
  have F6 : Blk (u6.alloc (.cells #[.int .u64 0, .int .u32 0, .int .u64 0, .int .u64 0, .slice none 0 0, .slice none 0 0] 26)) u6.heap.size 26 (csC 0 0 0 0 none 0 0 none 0 0) := Blk.new u6 26 _
  go_upto_region 9 with (with_reducible refine store_c rfl (.tmp 12) (.tmp 50) rfl u6.heap.size rfl rfl F6 ?_; rw [World.setRow_alloc_new])
  have K6 : Blk (u6.alloc (.cells (csC g1 e1 l1 v1 A6 m6 p6 B6 k6 q6) 26)) u6.heap.size 26 (csC g1 e1 l1 v1 A6 m6 p6 B6 k6 q6) := Blk.new _ _ _
  have hb := below1 u6 (.cells (csC g1 e1 l1 v1 A6 m6 p6 B6 k6 q6) 26)
  replace sa6 := sa6.later hb
  replace sb6 := sb6.later hb
  replace K0 := K0.later hb
  replace K1 := K1.later hb
  replace K5 := K5.later hb
  replace sa5 := sa5.later hb
  replace sb5 := sb5.later hb
  replace B := Wd.Ge.trans B hb
  clear hb
  clear F6
  generalize u6.alloc (.cells (csC g1 e1 l1 v1 A6 m6 p6 B6 k6 q6) 26) = y6 at *
  generalize u6.heap.size = b6 at *
  go_wp2_with fail
  refine (D3.out _).mono ?_
  rintro e' u7 ⟨hb, x, rfl, hx⟩
  replace K0 := K0.later hb
  replace K1 := K1.later hb
  replace K5 := K5.later hb
  replace sa5 := sa5.later hb
  replace sb5 := sb5.later hb
  replace K6 := K6.later hb
  replace sa6 := sa6.later hb
  replace sb6 := sb6.later hb
  replace B := Wd.Ge.trans B hb
  clear hb
  rw [be3.out.1] at hx
  obtain ⟨A7, m7, p7, B7, k7, q7, rfl, sa7, sb7, _⟩ := hx
  rw [be3.out.2.1, be3.out.2.2]
  dsimp only at sa7 sb7 ⊢
  have F7 : Blk (u7.alloc (.cells #[.int .u64 0, .int .u32 0, .int .u64 0, .int .u64 0, .slice none 0 0, .slice none 0 0] 26)) u7.heap.size 26 (csC 0 0 0 0 none 0 0 none 0 0) := Blk.new u7 26 _
  go_upto_region 10 with (with_reducible refine store_c rfl (.tmp 15) (.tmp 56) rfl u7.heap.size rfl rfl F7 ?_; rw [World.setRow_alloc_new])
  have K7 : Blk (u7.alloc (.cells (csC g0 e0 l0 v0 A7 m7 p7 B7 k7 q7) 26)) u7.heap.size 26 (csC g0 e0 l0 v0 A7 m7 p7 B7 k7 q7) := Blk.new _ _ _
  have hb := below1 u7 (.cells (csC g0 e0 l0 v0 A7 m7 p7 B7 k7 q7) 26)
  replace sa7 := sa7.later hb
  replace sb7 := sb7.later hb
  replace K0 := K0.later hb
  replace K1 := K1.later hb
  replace K5 := K5.later hb
  replace sa5 := sa5.later hb
  replace sb5 := sb5.later hb
  replace K6 := K6.later hb
  replace sa6 := sa6.later hb
  replace sb6 := sb6.later hb
  replace B := Wd.Ge.trans B hb
  clear hb
  clear F7
  generalize u7.alloc (.cells (csC g0 e0 l0 v0 A7 m7 p7 B7 k7 q7) 26) = y7 at *
  generalize u7.heap.size = b7 at *
  have ml : ∀ (l : List Int) (m : Nat), m = (l.take 20).length → m ≤ maxLen := fun l m h => by rw [h, List.length_take]; unfold maxLen; omega
  have m5l := ml _ _ sa5.len
  have k5l := ml _ _ sb5.len
  have m6l := ml _ _ sa6.len
  have k6l := ml _ _ sb6.len
  have m7l := ml _ _ sa7.len
  have k7l := ml _ _ sb7.len
  clear ml
  have I : Its w [(w.heap.size, csC g0 e0 l0 v0 A0 c0 p0 B0 d0 q0), (w.heap.size + 1, csC g1 e1 l1 v1 A1 c1 p1 B1 d1 q1), (b5, csC g0 e0 l0 v0 A5 m5 p5 B5 k5 q5), (b6, csC g1 e1 l1 v1 A6 m6 p6 B6 k6 q6), (b7, csC g0 e0 l0 v0 A7 m7 p7 B7 k7 q7)] [(A5, m5, o0.take 20), (B5, k5, n0.take 20), (A6, m6, o1.take 20), (B6, k6, n1.take 20), (A7, m7, o0.take 20), (B7, k7, n0.take 20)] y7 := ((((((Its.nil B).cons K7).cons K6).cons K5).cons K1).cons K0).scons sb7 |>.scons sa7 |>.scons sb6 |>.scons sa6 |>.scons sb5 |>.scons sa5
  clear B K0 K1 K5 K6 K7 sa5 sb5 sa6 sb6 sa7 sb7 D1 D2 D3 be1 be2 be3
  have hne : Nonempty (In (Its w [(w.heap.size, csC g0 e0 l0 v0 A0 c0 p0 B0 d0 q0), (w.heap.size + 1, csC g1 e1 l1 v1 A1 c1 p1 B1 d1 q1), (b5, csC g0 e0 l0 v0 A5 m5 p5 B5 k5 q5), (b6, csC g1 e1 l1 v1 A6 m6 p6 B6 k6 q6), (b7, csC g0 e0 l0 v0 A7 m7 p7 B7 k7 q7)] [(A5, m5, o0.take 20), (B5, k5, n0.take 20), (A6, m6, o1.take 20), (B6, k6, n1.take 20), (A7, m7, o0.take 20), (B7, k7, n0.take 20)])) := ⟨⟨_, I⟩⟩
  have fa0 : ∀ j : In (Its w [(w.heap.size, csC g0 e0 l0 v0 A0 c0 p0 B0 d0 q0), (w.heap.size + 1, csC g1 e1 l1 v1 A1 c1 p1 B1 d1 q1), (b5, csC g0 e0 l0 v0 A5 m5 p5 B5 k5 q5), (b6, csC g1 e1 l1 v1 A6 m6 p6 B6 k6 q6), (b7, csC g0 e0 l0 v0 A7 m7 p7 B7 k7 q7)] [(A5, m5, o0.take 20), (B5, k5, n0.take 20), (A6, m6, o1.take 20), (B6, k6, n1.take 20), (A7, m7, o0.take 20), (B7, k7, n0.take 20)]), j.W.cell? ⟨w.heap.size, 0, none⟩ = some (.int .u64 g0) := fun j => (j.h.at_ 0 rfl).cell 0
  have fa1 : ∀ j : In (Its w [(w.heap.size, csC g0 e0 l0 v0 A0 c0 p0 B0 d0 q0), (w.heap.size + 1, csC g1 e1 l1 v1 A1 c1 p1 B1 d1 q1), (b5, csC g0 e0 l0 v0 A5 m5 p5 B5 k5 q5), (b6, csC g1 e1 l1 v1 A6 m6 p6 B6 k6 q6), (b7, csC g0 e0 l0 v0 A7 m7 p7 B7 k7 q7)] [(A5, m5, o0.take 20), (B5, k5, n0.take 20), (A6, m6, o1.take 20), (B6, k6, n1.take 20), (A7, m7, o0.take 20), (B7, k7, n0.take 20)]), j.W.cell? ⟨w.heap.size, 1, none⟩ = some (.int .u32 e0) := fun j => (j.h.at_ 0 rfl).cell 1
  have fa2 : ∀ j : In (Its w [(w.heap.size, csC g0 e0 l0 v0 A0 c0 p0 B0 d0 q0), (w.heap.size + 1, csC g1 e1 l1 v1 A1 c1 p1 B1 d1 q1), (b5, csC g0 e0 l0 v0 A5 m5 p5 B5 k5 q5), (b6, csC g1 e1 l1 v1 A6 m6 p6 B6 k6 q6), (b7, csC g0 e0 l0 v0 A7 m7 p7 B7 k7 q7)] [(A5, m5, o0.take 20), (B5, k5, n0.take 20), (A6, m6, o1.take 20), (B6, k6, n1.take 20), (A7, m7, o0.take 20), (B7, k7, n0.take 20)]), j.W.cell? ⟨w.heap.size, 2, none⟩ = some (.int .u64 l0) := fun j => (j.h.at_ 0 rfl).cell 2
  have fa3 : ∀ j : In (Its w [(w.heap.size, csC g0 e0 l0 v0 A0 c0 p0 B0 d0 q0), (w.heap.size + 1, csC g1 e1 l1 v1 A1 c1 p1 B1 d1 q1), (b5, csC g0 e0 l0 v0 A5 m5 p5 B5 k5 q5), (b6, csC g1 e1 l1 v1 A6 m6 p6 B6 k6 q6), (b7, csC g0 e0 l0 v0 A7 m7 p7 B7 k7 q7)] [(A5, m5, o0.take 20), (B5, k5, n0.take 20), (A6, m6, o1.take 20), (B6, k6, n1.take 20), (A7, m7, o0.take 20), (B7, k7, n0.take 20)]), j.W.cell? ⟨w.heap.size, 3, none⟩ = some (.int .u64 v0) := fun j => (j.h.at_ 0 rfl).cell 3
  have fa4 : ∀ j : In (Its w [(w.heap.size, csC g0 e0 l0 v0 A0 c0 p0 B0 d0 q0), (w.heap.size + 1, csC g1 e1 l1 v1 A1 c1 p1 B1 d1 q1), (b5, csC g0 e0 l0 v0 A5 m5 p5 B5 k5 q5), (b6, csC g1 e1 l1 v1 A6 m6 p6 B6 k6 q6), (b7, csC g0 e0 l0 v0 A7 m7 p7 B7 k7 q7)] [(A5, m5, o0.take 20), (B5, k5, n0.take 20), (A6, m6, o1.take 20), (B6, k6, n1.take 20), (A7, m7, o0.take 20), (B7, k7, n0.take 20)]), j.W.cell? ⟨w.heap.size, 4, none⟩ = some (.slice A0 c0 p0) := fun j => (j.h.at_ 0 rfl).cell 4
  have fa5 : ∀ j : In (Its w [(w.heap.size, csC g0 e0 l0 v0 A0 c0 p0 B0 d0 q0), (w.heap.size + 1, csC g1 e1 l1 v1 A1 c1 p1 B1 d1 q1), (b5, csC g0 e0 l0 v0 A5 m5 p5 B5 k5 q5), (b6, csC g1 e1 l1 v1 A6 m6 p6 B6 k6 q6), (b7, csC g0 e0 l0 v0 A7 m7 p7 B7 k7 q7)] [(A5, m5, o0.take 20), (B5, k5, n0.take 20), (A6, m6, o1.take 20), (B6, k6, n1.take 20), (A7, m7, o0.take 20), (B7, k7, n0.take 20)]), j.W.cell? ⟨w.heap.size, 5, none⟩ = some (.slice B0 d0 q0) := fun j => (j.h.at_ 0 rfl).cell 5
  have fb0 : ∀ j : In (Its w [(w.heap.size, csC g0 e0 l0 v0 A0 c0 p0 B0 d0 q0), (w.heap.size + 1, csC g1 e1 l1 v1 A1 c1 p1 B1 d1 q1), (b5, csC g0 e0 l0 v0 A5 m5 p5 B5 k5 q5), (b6, csC g1 e1 l1 v1 A6 m6 p6 B6 k6 q6), (b7, csC g0 e0 l0 v0 A7 m7 p7 B7 k7 q7)] [(A5, m5, o0.take 20), (B5, k5, n0.take 20), (A6, m6, o1.take 20), (B6, k6, n1.take 20), (A7, m7, o0.take 20), (B7, k7, n0.take 20)]), j.W.cell? ⟨w.heap.size + 1, 0, none⟩ = some (.int .u64 g1) := fun j => (j.h.at_ 1 rfl).cell 0
  have fb1 : ∀ j : In (Its w [(w.heap.size, csC g0 e0 l0 v0 A0 c0 p0 B0 d0 q0), (w.heap.size + 1, csC g1 e1 l1 v1 A1 c1 p1 B1 d1 q1), (b5, csC g0 e0 l0 v0 A5 m5 p5 B5 k5 q5), (b6, csC g1 e1 l1 v1 A6 m6 p6 B6 k6 q6), (b7, csC g0 e0 l0 v0 A7 m7 p7 B7 k7 q7)] [(A5, m5, o0.take 20), (B5, k5, n0.take 20), (A6, m6, o1.take 20), (B6, k6, n1.take 20), (A7, m7, o0.take 20), (B7, k7, n0.take 20)]), j.W.cell? ⟨w.heap.size + 1, 1, none⟩ = some (.int .u32 e1) := fun j => (j.h.at_ 1 rfl).cell 1
  have fb2 : ∀ j : In (Its w [(w.heap.size, csC g0 e0 l0 v0 A0 c0 p0 B0 d0 q0), (w.heap.size + 1, csC g1 e1 l1 v1 A1 c1 p1 B1 d1 q1), (b5, csC g0 e0 l0 v0 A5 m5 p5 B5 k5 q5), (b6, csC g1 e1 l1 v1 A6 m6 p6 B6 k6 q6), (b7, csC g0 e0 l0 v0 A7 m7 p7 B7 k7 q7)] [(A5, m5, o0.take 20), (B5, k5, n0.take 20), (A6, m6, o1.take 20), (B6, k6, n1.take 20), (A7, m7, o0.take 20), (B7, k7, n0.take 20)]), j.W.cell? ⟨w.heap.size + 1, 2, none⟩ = some (.int .u64 l1) := fun j => (j.h.at_ 1 rfl).cell 2
  have fb3 : ∀ j : In (Its w [(w.heap.size, csC g0 e0 l0 v0 A0 c0 p0 B0 d0 q0), (w.heap.size + 1, csC g1 e1 l1 v1 A1 c1 p1 B1 d1 q1), (b5, csC g0 e0 l0 v0 A5 m5 p5 B5 k5 q5), (b6, csC g1 e1 l1 v1 A6 m6 p6 B6 k6 q6), (b7, csC g0 e0 l0 v0 A7 m7 p7 B7 k7 q7)] [(A5, m5, o0.take 20), (B5, k5, n0.take 20), (A6, m6, o1.take 20), (B6, k6, n1.take 20), (A7, m7, o0.take 20), (B7, k7, n0.take 20)]), j.W.cell? ⟨w.heap.size + 1, 3, none⟩ = some (.int .u64 v1) := fun j => (j.h.at_ 1 rfl).cell 3
  have fb4 : ∀ j : In (Its w [(w.heap.size, csC g0 e0 l0 v0 A0 c0 p0 B0 d0 q0), (w.heap.size + 1, csC g1 e1 l1 v1 A1 c1 p1 B1 d1 q1), (b5, csC g0 e0 l0 v0 A5 m5 p5 B5 k5 q5), (b6, csC g1 e1 l1 v1 A6 m6 p6 B6 k6 q6), (b7, csC g0 e0 l0 v0 A7 m7 p7 B7 k7 q7)] [(A5, m5, o0.take 20), (B5, k5, n0.take 20), (A6, m6, o1.take 20), (B6, k6, n1.take 20), (A7, m7, o0.take 20), (B7, k7, n0.take 20)]), j.W.cell? ⟨w.heap.size + 1, 4, none⟩ = some (.slice A1 c1 p1) := fun j => (j.h.at_ 1 rfl).cell 4
  have fb5 : ∀ j : In (Its w [(w.heap.size, csC g0 e0 l0 v0 A0 c0 p0 B0 d0 q0), (w.heap.size + 1, csC g1 e1 l1 v1 A1 c1 p1 B1 d1 q1), (b5, csC g0 e0 l0 v0 A5 m5 p5 B5 k5 q5), (b6, csC g1 e1 l1 v1 A6 m6 p6 B6 k6 q6), (b7, csC g0 e0 l0 v0 A7 m7 p7 B7 k7 q7)] [(A5, m5, o0.take 20), (B5, k5, n0.take 20), (A6, m6, o1.take 20), (B6, k6, n1.take 20), (A7, m7, o0.take 20), (B7, k7, n0.take 20)]), j.W.cell? ⟨w.heap.size + 1, 5, none⟩ = some (.slice B1 d1 q1) := fun j => (j.h.at_ 1 rfl).cell 5
  have fx0 : ∀ j : In (Its w [(w.heap.size, csC g0 e0 l0 v0 A0 c0 p0 B0 d0 q0), (w.heap.size + 1, csC g1 e1 l1 v1 A1 c1 p1 B1 d1 q1), (b5, csC g0 e0 l0 v0 A5 m5 p5 B5 k5 q5), (b6, csC g1 e1 l1 v1 A6 m6 p6 B6 k6 q6), (b7, csC g0 e0 l0 v0 A7 m7 p7 B7 k7 q7)] [(A5, m5, o0.take 20), (B5, k5, n0.take 20), (A6, m6, o1.take 20), (B6, k6, n1.take 20), (A7, m7, o0.take 20), (B7, k7, n0.take 20)]), j.W.cell? ⟨b5, 0, none⟩ = some (.int .u64 g0) := fun j => (j.h.at_ 2 rfl).cell 0
  have fx1 : ∀ j : In (Its w [(w.heap.size, csC g0 e0 l0 v0 A0 c0 p0 B0 d0 q0), (w.heap.size + 1, csC g1 e1 l1 v1 A1 c1 p1 B1 d1 q1), (b5, csC g0 e0 l0 v0 A5 m5 p5 B5 k5 q5), (b6, csC g1 e1 l1 v1 A6 m6 p6 B6 k6 q6), (b7, csC g0 e0 l0 v0 A7 m7 p7 B7 k7 q7)] [(A5, m5, o0.take 20), (B5, k5, n0.take 20), (A6, m6, o1.take 20), (B6, k6, n1.take 20), (A7, m7, o0.take 20), (B7, k7, n0.take 20)]), j.W.cell? ⟨b5, 1, none⟩ = some (.int .u32 e0) := fun j => (j.h.at_ 2 rfl).cell 1
  have fx2 : ∀ j : In (Its w [(w.heap.size, csC g0 e0 l0 v0 A0 c0 p0 B0 d0 q0), (w.heap.size + 1, csC g1 e1 l1 v1 A1 c1 p1 B1 d1 q1), (b5, csC g0 e0 l0 v0 A5 m5 p5 B5 k5 q5), (b6, csC g1 e1 l1 v1 A6 m6 p6 B6 k6 q6), (b7, csC g0 e0 l0 v0 A7 m7 p7 B7 k7 q7)] [(A5, m5, o0.take 20), (B5, k5, n0.take 20), (A6, m6, o1.take 20), (B6, k6, n1.take 20), (A7, m7, o0.take 20), (B7, k7, n0.take 20)]), j.W.cell? ⟨b5, 2, none⟩ = some (.int .u64 l0) := fun j => (j.h.at_ 2 rfl).cell 2
  have fx3 : ∀ j : In (Its w [(w.heap.size, csC g0 e0 l0 v0 A0 c0 p0 B0 d0 q0), (w.heap.size + 1, csC g1 e1 l1 v1 A1 c1 p1 B1 d1 q1), (b5, csC g0 e0 l0 v0 A5 m5 p5 B5 k5 q5), (b6, csC g1 e1 l1 v1 A6 m6 p6 B6 k6 q6), (b7, csC g0 e0 l0 v0 A7 m7 p7 B7 k7 q7)] [(A5, m5, o0.take 20), (B5, k5, n0.take 20), (A6, m6, o1.take 20), (B6, k6, n1.take 20), (A7, m7, o0.take 20), (B7, k7, n0.take 20)]), j.W.cell? ⟨b5, 3, none⟩ = some (.int .u64 v0) := fun j => (j.h.at_ 2 rfl).cell 3
  have fx4 : ∀ j : In (Its w [(w.heap.size, csC g0 e0 l0 v0 A0 c0 p0 B0 d0 q0), (w.heap.size + 1, csC g1 e1 l1 v1 A1 c1 p1 B1 d1 q1), (b5, csC g0 e0 l0 v0 A5 m5 p5 B5 k5 q5), (b6, csC g1 e1 l1 v1 A6 m6 p6 B6 k6 q6), (b7, csC g0 e0 l0 v0 A7 m7 p7 B7 k7 q7)] [(A5, m5, o0.take 20), (B5, k5, n0.take 20), (A6, m6, o1.take 20), (B6, k6, n1.take 20), (A7, m7, o0.take 20), (B7, k7, n0.take 20)]), j.W.cell? ⟨b5, 4, none⟩ = some (.slice A5 m5 p5) := fun j => (j.h.at_ 2 rfl).cell 4
  have fx5 : ∀ j : In (Its w [(w.heap.size, csC g0 e0 l0 v0 A0 c0 p0 B0 d0 q0), (w.heap.size + 1, csC g1 e1 l1 v1 A1 c1 p1 B1 d1 q1), (b5, csC g0 e0 l0 v0 A5 m5 p5 B5 k5 q5), (b6, csC g1 e1 l1 v1 A6 m6 p6 B6 k6 q6), (b7, csC g0 e0 l0 v0 A7 m7 p7 B7 k7 q7)] [(A5, m5, o0.take 20), (B5, k5, n0.take 20), (A6, m6, o1.take 20), (B6, k6, n1.take 20), (A7, m7, o0.take 20), (B7, k7, n0.take 20)]), j.W.cell? ⟨b5, 5, none⟩ = some (.slice B5 k5 q5) := fun j => (j.h.at_ 2 rfl).cell 5
  have fy0 : ∀ j : In (Its w [(w.heap.size, csC g0 e0 l0 v0 A0 c0 p0 B0 d0 q0), (w.heap.size + 1, csC g1 e1 l1 v1 A1 c1 p1 B1 d1 q1), (b5, csC g0 e0 l0 v0 A5 m5 p5 B5 k5 q5), (b6, csC g1 e1 l1 v1 A6 m6 p6 B6 k6 q6), (b7, csC g0 e0 l0 v0 A7 m7 p7 B7 k7 q7)] [(A5, m5, o0.take 20), (B5, k5, n0.take 20), (A6, m6, o1.take 20), (B6, k6, n1.take 20), (A7, m7, o0.take 20), (B7, k7, n0.take 20)]), j.W.cell? ⟨b6, 0, none⟩ = some (.int .u64 g1) := fun j => (j.h.at_ 3 rfl).cell 0
  have fy1 : ∀ j : In (Its w [(w.heap.size, csC g0 e0 l0 v0 A0 c0 p0 B0 d0 q0), (w.heap.size + 1, csC g1 e1 l1 v1 A1 c1 p1 B1 d1 q1), (b5, csC g0 e0 l0 v0 A5 m5 p5 B5 k5 q5), (b6, csC g1 e1 l1 v1 A6 m6 p6 B6 k6 q6), (b7, csC g0 e0 l0 v0 A7 m7 p7 B7 k7 q7)] [(A5, m5, o0.take 20), (B5, k5, n0.take 20), (A6, m6, o1.take 20), (B6, k6, n1.take 20), (A7, m7, o0.take 20), (B7, k7, n0.take 20)]), j.W.cell? ⟨b6, 1, none⟩ = some (.int .u32 e1) := fun j => (j.h.at_ 3 rfl).cell 1
  have fy2 : ∀ j : In (Its w [(w.heap.size, csC g0 e0 l0 v0 A0 c0 p0 B0 d0 q0), (w.heap.size + 1, csC g1 e1 l1 v1 A1 c1 p1 B1 d1 q1), (b5, csC g0 e0 l0 v0 A5 m5 p5 B5 k5 q5), (b6, csC g1 e1 l1 v1 A6 m6 p6 B6 k6 q6), (b7, csC g0 e0 l0 v0 A7 m7 p7 B7 k7 q7)] [(A5, m5, o0.take 20), (B5, k5, n0.take 20), (A6, m6, o1.take 20), (B6, k6, n1.take 20), (A7, m7, o0.take 20), (B7, k7, n0.take 20)]), j.W.cell? ⟨b6, 2, none⟩ = some (.int .u64 l1) := fun j => (j.h.at_ 3 rfl).cell 2
  have fy3 : ∀ j : In (Its w [(w.heap.size, csC g0 e0 l0 v0 A0 c0 p0 B0 d0 q0), (w.heap.size + 1, csC g1 e1 l1 v1 A1 c1 p1 B1 d1 q1), (b5, csC g0 e0 l0 v0 A5 m5 p5 B5 k5 q5), (b6, csC g1 e1 l1 v1 A6 m6 p6 B6 k6 q6), (b7, csC g0 e0 l0 v0 A7 m7 p7 B7 k7 q7)] [(A5, m5, o0.take 20), (B5, k5, n0.take 20), (A6, m6, o1.take 20), (B6, k6, n1.take 20), (A7, m7, o0.take 20), (B7, k7, n0.take 20)]), j.W.cell? ⟨b6, 3, none⟩ = some (.int .u64 v1) := fun j => (j.h.at_ 3 rfl).cell 3
  have fy4 : ∀ j : In (Its w [(w.heap.size, csC g0 e0 l0 v0 A0 c0 p0 B0 d0 q0), (w.heap.size + 1, csC g1 e1 l1 v1 A1 c1 p1 B1 d1 q1), (b5, csC g0 e0 l0 v0 A5 m5 p5 B5 k5 q5), (b6, csC g1 e1 l1 v1 A6 m6 p6 B6 k6 q6), (b7, csC g0 e0 l0 v0 A7 m7 p7 B7 k7 q7)] [(A5, m5, o0.take 20), (B5, k5, n0.take 20), (A6, m6, o1.take 20), (B6, k6, n1.take 20), (A7, m7, o0.take 20), (B7, k7, n0.take 20)]), j.W.cell? ⟨b6, 4, none⟩ = some (.slice A6 m6 p6) := fun j => (j.h.at_ 3 rfl).cell 4
  have fy5 : ∀ j : In (Its w [(w.heap.size, csC g0 e0 l0 v0 A0 c0 p0 B0 d0 q0), (w.heap.size + 1, csC g1 e1 l1 v1 A1 c1 p1 B1 d1 q1), (b5, csC g0 e0 l0 v0 A5 m5 p5 B5 k5 q5), (b6, csC g1 e1 l1 v1 A6 m6 p6 B6 k6 q6), (b7, csC g0 e0 l0 v0 A7 m7 p7 B7 k7 q7)] [(A5, m5, o0.take 20), (B5, k5, n0.take 20), (A6, m6, o1.take 20), (B6, k6, n1.take 20), (A7, m7, o0.take 20), (B7, k7, n0.take 20)]), j.W.cell? ⟨b6, 5, none⟩ = some (.slice B6 k6 q6) := fun j => (j.h.at_ 3 rfl).cell 5
  have fz0 : ∀ j : In (Its w [(w.heap.size, csC g0 e0 l0 v0 A0 c0 p0 B0 d0 q0), (w.heap.size + 1, csC g1 e1 l1 v1 A1 c1 p1 B1 d1 q1), (b5, csC g0 e0 l0 v0 A5 m5 p5 B5 k5 q5), (b6, csC g1 e1 l1 v1 A6 m6 p6 B6 k6 q6), (b7, csC g0 e0 l0 v0 A7 m7 p7 B7 k7 q7)] [(A5, m5, o0.take 20), (B5, k5, n0.take 20), (A6, m6, o1.take 20), (B6, k6, n1.take 20), (A7, m7, o0.take 20), (B7, k7, n0.take 20)]), j.W.cell? ⟨b7, 0, none⟩ = some (.int .u64 g0) := fun j => (j.h.at_ 4 rfl).cell 0
  have fz1 : ∀ j : In (Its w [(w.heap.size, csC g0 e0 l0 v0 A0 c0 p0 B0 d0 q0), (w.heap.size + 1, csC g1 e1 l1 v1 A1 c1 p1 B1 d1 q1), (b5, csC g0 e0 l0 v0 A5 m5 p5 B5 k5 q5), (b6, csC g1 e1 l1 v1 A6 m6 p6 B6 k6 q6), (b7, csC g0 e0 l0 v0 A7 m7 p7 B7 k7 q7)] [(A5, m5, o0.take 20), (B5, k5, n0.take 20), (A6, m6, o1.take 20), (B6, k6, n1.take 20), (A7, m7, o0.take 20), (B7, k7, n0.take 20)]), j.W.cell? ⟨b7, 1, none⟩ = some (.int .u32 e0) := fun j => (j.h.at_ 4 rfl).cell 1
  have fz2 : ∀ j : In (Its w [(w.heap.size, csC g0 e0 l0 v0 A0 c0 p0 B0 d0 q0), (w.heap.size + 1, csC g1 e1 l1 v1 A1 c1 p1 B1 d1 q1), (b5, csC g0 e0 l0 v0 A5 m5 p5 B5 k5 q5), (b6, csC g1 e1 l1 v1 A6 m6 p6 B6 k6 q6), (b7, csC g0 e0 l0 v0 A7 m7 p7 B7 k7 q7)] [(A5, m5, o0.take 20), (B5, k5, n0.take 20), (A6, m6, o1.take 20), (B6, k6, n1.take 20), (A7, m7, o0.take 20), (B7, k7, n0.take 20)]), j.W.cell? ⟨b7, 2, none⟩ = some (.int .u64 l0) := fun j => (j.h.at_ 4 rfl).cell 2
  have fz3 : ∀ j : In (Its w [(w.heap.size, csC g0 e0 l0 v0 A0 c0 p0 B0 d0 q0), (w.heap.size + 1, csC g1 e1 l1 v1 A1 c1 p1 B1 d1 q1), (b5, csC g0 e0 l0 v0 A5 m5 p5 B5 k5 q5), (b6, csC g1 e1 l1 v1 A6 m6 p6 B6 k6 q6), (b7, csC g0 e0 l0 v0 A7 m7 p7 B7 k7 q7)] [(A5, m5, o0.take 20), (B5, k5, n0.take 20), (A6, m6, o1.take 20), (B6, k6, n1.take 20), (A7, m7, o0.take 20), (B7, k7, n0.take 20)]), j.W.cell? ⟨b7, 3, none⟩ = some (.int .u64 v0) := fun j => (j.h.at_ 4 rfl).cell 3
  have fz4 : ∀ j : In (Its w [(w.heap.size, csC g0 e0 l0 v0 A0 c0 p0 B0 d0 q0), (w.heap.size + 1, csC g1 e1 l1 v1 A1 c1 p1 B1 d1 q1), (b5, csC g0 e0 l0 v0 A5 m5 p5 B5 k5 q5), (b6, csC g1 e1 l1 v1 A6 m6 p6 B6 k6 q6), (b7, csC g0 e0 l0 v0 A7 m7 p7 B7 k7 q7)] [(A5, m5, o0.take 20), (B5, k5, n0.take 20), (A6, m6, o1.take 20), (B6, k6, n1.take 20), (A7, m7, o0.take 20), (B7, k7, n0.take 20)]), j.W.cell? ⟨b7, 4, none⟩ = some (.slice A7 m7 p7) := fun j => (j.h.at_ 4 rfl).cell 4
  have fz5 : ∀ j : In (Its w [(w.heap.size, csC g0 e0 l0 v0 A0 c0 p0 B0 d0 q0), (w.heap.size + 1, csC g1 e1 l1 v1 A1 c1 p1 B1 d1 q1), (b5, csC g0 e0 l0 v0 A5 m5 p5 B5 k5 q5), (b6, csC g1 e1 l1 v1 A6 m6 p6 B6 k6 q6), (b7, csC g0 e0 l0 v0 A7 m7 p7 B7 k7 q7)] [(A5, m5, o0.take 20), (B5, k5, n0.take 20), (A6, m6, o1.take 20), (B6, k6, n1.take 20), (A7, m7, o0.take 20), (B7, k7, n0.take 20)]), j.W.cell? ⟨b7, 5, none⟩ = some (.slice B7 k7 q7) := fun j => (j.h.at_ 4 rfl).cell 5
  have II := Lib.hid I
  clear I
  have SQ0 := Lib.hid (fun W (hi : Its w [(w.heap.size, csC g0 e0 l0 v0 A0 c0 p0 B0 d0 q0), (w.heap.size + 1, csC g1 e1 l1 v1 A1 c1 p1 B1 d1 q1), (b5, csC g0 e0 l0 v0 A5 m5 p5 B5 k5 q5), (b6, csC g1 e1 l1 v1 A6 m6 p6 B6 k6 q6), (b7, csC g0 e0 l0 v0 A7 m7 p7 B7 k7 q7)] [(A5, m5, o0.take 20), (B5, k5, n0.take 20), (A6, m6, o1.take 20), (B6, k6, n1.take 20), (A7, m7, o0.take 20), (B7, k7, n0.take 20)] W) => same_is g0 e0 l0 v0 A7 m7 p7 B7 k7 q7 g0 e0 l0 v0 A0 c0 p0 B0 d0 q0 (o0.take 20) (n0.take 20) (o0.take 20) (n0.take 20) true W (hi.sl 4 rfl) (hi.sl 5 rfl) (SA0.out.later hi.b) (SB0.out.later hi.b) m7l k7l (decide_eq_true rfl))
  refine region_class (Its w [(w.heap.size, csC g0 e0 l0 v0 A0 c0 p0 B0 d0 q0), (w.heap.size + 1, csC g1 e1 l1 v1 A1 c1 p1 B1 d1 q1), (b5, csC g0 e0 l0 v0 A5 m5 p5 B5 k5 q5), (b6, csC g1 e1 l1 v1 A6 m6 p6 B6 k6 q6), (b7, csC g0 e0 l0 v0 A7 m7 p7 B7 k7 q7)] [(A5, m5, o0.take 20), (B5, k5, n0.take 20), (A6, m6, o1.take 20), (B6, k6, n1.take 20), (A7, m7, o0.take 20), (B7, k7, n0.take 20)]) (by kernel_rfl) (by kernel_rfl) II.out.drawn ?_
  repeat (go_big_quiet_step (first
    | (go_at_call 12; with_reducible exact class_call _ (fun hi => its_ge hi (ref_any g0 e0 l0 v0 A7 m7 p7 B7 k7 q7 _)))
    | (go_at_call 12; with_reducible exact class_call _ (fun hi => its_ge hi (ref_any g0 e0 l0 v0 A0 c0 p0 B0 d0 q0 _)))
    | (go_at_call 19; with_reducible exact class_call _ (fun hi => its_ge hi (SQ0.out _ hi)))))
  refine wpQuiet_nil ?_
  rintro _ ⟨j1, rfl⟩
  have ga := fa0 j1
  have gb := fb0 j1
  go_wp2_with fail
  refine region_class (Its w [(w.heap.size, csC g0 e0 l0 v0 A0 c0 p0 B0 d0 q0), (w.heap.size + 1, csC g1 e1 l1 v1 A1 c1 p1 B1 d1 q1), (b5, csC g0 e0 l0 v0 A5 m5 p5 B5 k5 q5), (b6, csC g1 e1 l1 v1 A6 m6 p6 B6 k6 q6), (b7, csC g0 e0 l0 v0 A7 m7 p7 B7 k7 q7)] [(A5, m5, o0.take 20), (B5, k5, n0.take 20), (A6, m6, o1.take 20), (B6, k6, n1.take 20), (A7, m7, o0.take 20), (B7, k7, n0.take 20)]) (by kernel_rfl) (by kernel_rfl) j1.h.drawn ?_
  have SQ1 := Lib.hid (fun W (hi : Its w [(w.heap.size, csC g0 e0 l0 v0 A0 c0 p0 B0 d0 q0), (w.heap.size + 1, csC g1 e1 l1 v1 A1 c1 p1 B1 d1 q1), (b5, csC g0 e0 l0 v0 A5 m5 p5 B5 k5 q5), (b6, csC g1 e1 l1 v1 A6 m6 p6 B6 k6 q6), (b7, csC g0 e0 l0 v0 A7 m7 p7 B7 k7 q7)] [(A5, m5, o0.take 20), (B5, k5, n0.take 20), (A6, m6, o1.take 20), (B6, k6, n1.take 20), (A7, m7, o0.take 20), (B7, k7, n0.take 20)] W) => same_is g0 e0 l0 v0 A5 m5 p5 B5 k5 q5 g0 e0 l0 v0 A0 c0 p0 B0 d0 q0 (o0.take 20) (n0.take 20) (o0.take 20) (n0.take 20) true W (hi.sl 0 rfl) (hi.sl 1 rfl) (SA0.out.later hi.b) (SB0.out.later hi.b) m5l k5l (decide_eq_true rfl))
  have SQ2 := Lib.hid (fun W (hi : Its w [(w.heap.size, csC g0 e0 l0 v0 A0 c0 p0 B0 d0 q0), (w.heap.size + 1, csC g1 e1 l1 v1 A1 c1 p1 B1 d1 q1), (b5, csC g0 e0 l0 v0 A5 m5 p5 B5 k5 q5), (b6, csC g1 e1 l1 v1 A6 m6 p6 B6 k6 q6), (b7, csC g0 e0 l0 v0 A7 m7 p7 B7 k7 q7)] [(A5, m5, o0.take 20), (B5, k5, n0.take 20), (A6, m6, o1.take 20), (B6, k6, n1.take 20), (A7, m7, o0.take 20), (B7, k7, n0.take 20)] W) => same_is g1 e1 l1 v1 A6 m6 p6 B6 k6 q6 g1 e1 l1 v1 A1 c1 p1 B1 d1 q1 (o1.take 20) (n1.take 20) (o1.take 20) (n1.take 20) true W (hi.sl 2 rfl) (hi.sl 3 rfl) (SA1.out.later hi.b) (SB1.out.later hi.b) m6l k6l (decide_eq_true rfl))
  repeat (go_big_quiet_step (first
    | (go_at_call 12; with_reducible exact class_call _ (fun hi => its_ge hi (ref_any g0 e0 l0 v0 A5 m5 p5 B5 k5 q5 _)))
    | (go_at_call 12; with_reducible exact class_call _ (fun hi => its_ge hi (ref_any g1 e1 l1 v1 A6 m6 p6 B6 k6 q6 _)))
    | (go_at_call 12; with_reducible exact class_call _ (fun hi => its_ge hi (ref_any g0 e0 l0 v0 A0 c0 p0 B0 d0 q0 _)))
    | (go_at_call 12; with_reducible exact class_call _ (fun hi => its_ge hi (ref_any g1 e1 l1 v1 A1 c1 p1 B1 d1 q1 _)))
    | (go_at_call 19; with_reducible exact class_call _ (fun hi => its_ge hi (SQ1.out _ hi)))
    | (go_at_call 19; with_reducible exact class_call _ (fun hi => its_ge hi (SQ2.out _ hi)))
    | (go_at_call 20; with_reducible exact class_call _ (fun hi => its_ge hi (fixed_any _)))))
  refine wpQuiet_nil ?_
  rintro _ ⟨j, rfl⟩
  go_wp2_with fail
  go_ret
  exact ⟨rfl, j.h.b⟩

set_option maxRecDepth 100000 in
set_option maxHeartbeats 16000000 in
theorem lt (g0 e0 l0 v0 : Int) (A0 : Option Addr) (m0 p0 : Nat) (B0 : Option Addr) (k0 q0 : Nat) (o0 n0 : List Int) (g1 e1 l1 v1 : Int) (A1 : Option Addr) (m1 p1 : Nat) (B1 : Option Addr) (k1 q1 : Nat) (o1 n1 : List Int) (S0 S1 : ByteArray) (w : World) (hg0 : 0 ≤ g0 ∧ g0 < 18446744073709551616) (he0 : 0 ≤ e0 ∧ e0 < 4294967296) (hl0 : 0 ≤ l0 ∧ l0 < 18446744073709551616) (hv0 : 0 ≤ v0 ∧ v0 < 18446744073709551616) (sa0 : Sl w A0 m0 o0) (sb0 : Sl w B0 k0 n0) (hm0 : m0 ≤ maxLen ∧ k0 ≤ maxLen) (hp0 : m0 ≤ p0 ∧ k0 ≤ q0) (hg1 : 0 ≤ g1 ∧ g1 < 18446744073709551616) (he1 : 0 ≤ e1 ∧ e1 < 4294967296) (hl1 : 0 ≤ l1 ∧ l1 < 18446744073709551616) (hv1 : 0 ≤ v1 ∧ v1 < 18446744073709551616) (sa1 : Sl w A1 m1 o1) (sb1 : Sl w B1 k1 n1) (hm1 : m1 ≤ maxLen ∧ k1 ≤ maxLen) (hp1 : m1 ≤ p1 ∧ k1 ≤ q1) (E0 : Hid (EncAt w g0 e0 l0 v0 A0 (cut20 m0) p0 B0 (cut20 k0) q0 S0 0)) (E1 : Hid (EncAt w g1 e1 l1 v1 A1 (cut20 m1) p1 B1 (cut20 k1) q1 S1 0)) (D1 : Hid (∀ w, Calls Try.prog 15 #[.string S0, .string S1] w (BestP S0 S1 w))) (D2 : Hid (∀ w, Calls Try.prog 15 #[.string S1, .string S0] w (BestP S1 S0 w))) (D3 : Hid (∀ w, Calls Try.prog 15 #[.string S0, .string ⟨#[]⟩] w (BestP S0 ⟨#[]⟩ w)))
    (be1 : Hid (bestC S0.data.toList S1.data.toList = (⟨g1, e1, l1, v1, o1.take 20, n1.take 20⟩ : Chk) ∧ bestI S0.data.toList S1.data.toList = 1 ∧ bestE S0.data.toList S1.data.toList = 0)) (be2 : Hid (bestC S1.data.toList S0.data.toList = (⟨g1, e1, l1, v1, o1.take 20, n1.take 20⟩ : Chk) ∧ bestI S1.data.toList S0.data.toList = 0 ∧ bestE S1.data.toList S0.data.toList = 0)) (be3 : Hid (bestC S0.data.toList (⟨#[]⟩ : ByteArray).data.toList = (⟨g0, e0, l0, v0, o0.take 20, n0.take 20⟩ : Chk) ∧ bestI S0.data.toList (⟨#[]⟩ : ByteArray).data.toList = 0 ∧ bestE S0.data.toList (⟨#[]⟩ : ByteArray).data.toList = 0)) (hq : (g0 == g1) = false) (hx : max g0 g1 = g1) :
    Calls Try.prog 6 #[.agg #[.int .u64 g0, .int .u32 e0, .int .u64 l0, .int .u64 v0, .slice A0 m0 p0, .slice B0 k0 q0], .agg #[.int .u64 g1, .int .u32 e1, .int .u64 l1, .int .u64 v1, .slice A1 m1 p1, .slice B1 k1 q1]] w fun e' w' => e' = .returned (.bool true) ∧ Below w.heap.size w w' := by
  have SA0 := Lib.hid sa0.cut
  have SB0 := Lib.hid sb0.cut
  have SA1 := Lib.hid sa1.cut
  have SB1 := Lib.hid sb1.cut
  clear sa0 sb0 sa1 sb1
  have B := below1 w (.cells #[.int .u64 g0, .int .u32 e0, .int .u64 l0, .int .u64 v0, .slice A0 m0 p0, .slice B0 k0 q0] 26)
  have K0 : Blk (w.alloc (.cells #[.int .u64 g0, .int .u32 e0, .int .u64 l0, .int .u64 v0, .slice A0 m0 p0, .slice B0 k0 q0] 26)) (w.heap.size) 26 (csC g0 e0 l0 v0 A0 m0 p0 B0 k0 q0) := blk_new w 26 (csC g0 e0 l0 v0 A0 m0 p0 B0 k0 q0) (w.heap.size) (by simp)
  have hb := below1 (w.alloc (.cells #[.int .u64 g0, .int .u32 e0, .int .u64 l0, .int .u64 v0, .slice A0 m0 p0, .slice B0 k0 q0] 26)) (.cells #[.int .u64 g1, .int .u32 e1, .int .u64 l1, .int .u64 v1, .slice A1 m1 p1, .slice B1 k1 q1] 26)
  replace K0 := K0.later hb
  replace B := Wd.Ge.trans B hb
  clear hb
  have K1 : Blk ((w.alloc (.cells #[.int .u64 g0, .int .u32 e0, .int .u64 l0, .int .u64 v0, .slice A0 m0 p0, .slice B0 k0 q0] 26)).alloc (.cells #[.int .u64 g1, .int .u32 e1, .int .u64 l1, .int .u64 v1, .slice A1 m1 p1, .slice B1 k1 q1] 26)) (w.heap.size + 1) 26 (csC g1 e1 l1 v1 A1 m1 p1 B1 k1 q1) := blk_new (w.alloc (.cells #[.int .u64 g0, .int .u32 e0, .int .u64 l0, .int .u64 v0, .slice A0 m0 p0, .slice B0 k0 q0] 26)) 26 (csC g1 e1 l1 v1 A1 m1 p1 B1 k1 q1) (w.heap.size + 1) (by simp)
  have C0 := Lib.hid (fun w => lawcut_any g0 e0 l0 v0 A0 m0 p0 B0 k0 q0 w hm0.1 hm0.2 hp0.1 hp0.2)
  have C1 := Lib.hid (fun w => lawcut_any g1 e1 l1 v1 A1 m1 p1 B1 k1 q1 w hm1.1 hm1.2 hp1.1 hp1.2)
  obtain ⟨wa, EW⟩ : ∃ wa, Hid (((w.alloc (.cells #[.int .u64 g0, .int .u32 e0, .int .u64 l0, .int .u64 v0, .slice A0 m0 p0, .slice B0 k0 q0] 26)).alloc (.cells #[.int .u64 g1, .int .u32 e1, .int .u64 l1, .int .u64 v1, .slice A1 m1 p1, .slice B1 k1 q1] 26)) = wa) := ⟨_, rfl⟩
  rw [EW.out] at B K0 K1
  go_enter Try.func6, Try.ntmps6
  go_upto_region 1 with fail
  rw [EW.out]
  clear EW
  generalize cut20 m0 = c0 at *
  generalize cut20 k0 = d0 at *
  generalize cut20 m1 = c1 at *
  generalize cut20 k1 = d1 at *
  have HK := Lib.hid K0
  go_wp2_with (with_reducible refine load_c rfl (.tmp 2) rfl (w.heap.size) rfl HK.out ?_)
  refine (C0.out _).mono ?_
  rintro e' u0 ⟨rfl, hb⟩
  replace K0 := K0.later hb
  replace K1 := K1.later hb
  replace B := Wd.Ge.trans B hb
  clear hb
  clear HK
  have HK := Lib.hid K0
  go_upto_region 2 with (with_reducible refine store_c rfl (.tmp 2) (.tmp 19) rfl (w.heap.size) rfl rfl HK.out ?_)
  replace K1 := K1.far (g' := w.heap.size) (by omega) (csC g0 e0 l0 v0 A0 c0 p0 B0 d0 q0)
  replace K0 := K0.row (csC g0 e0 l0 v0 A0 c0 p0 B0 d0 q0)
  replace B := below_set B (show w.heap.size ≤ w.heap.size by omega) (csC g0 e0 l0 v0 A0 c0 p0 B0 d0 q0)
  generalize u0.setRow (w.heap.size) (csC g0 e0 l0 v0 A0 c0 p0 B0 d0 q0) = z0 at *
  clear HK C0
  have HK := Lib.hid K1
  go_wp2_with (with_reducible refine load_c rfl (.tmp 3) rfl (w.heap.size + 1) rfl HK.out ?_)
  refine (C1.out _).mono ?_
  rintro e' u1 ⟨rfl, hb⟩
  replace K0 := K0.later hb
  replace K1 := K1.later hb
  replace B := Wd.Ge.trans B hb
  clear hb
  clear HK
  have HK := Lib.hid K1
  go_upto_region 3 with (with_reducible refine store_c rfl (.tmp 3) (.tmp 21) rfl (w.heap.size + 1) rfl rfl HK.out ?_)
  replace K0 := K0.far (g' := w.heap.size + 1) (by omega) (csC g1 e1 l1 v1 A1 c1 p1 B1 d1 q1)
  replace K1 := K1.row (csC g1 e1 l1 v1 A1 c1 p1 B1 d1 q1)
  replace B := below_set B (show w.heap.size ≤ w.heap.size + 1 by omega) (csC g1 e1 l1 v1 A1 c1 p1 B1 d1 q1)
  generalize u1.setRow (w.heap.size + 1) (csC g1 e1 l1 v1 A1 c1 p1 B1 d1 q1) = z1 at *
  clear HK C1
  have HK := Lib.hid K0
  go_wp2_with (with_reducible refine load_c rfl (.tmp 2) rfl (w.heap.size) rfl HK.out ?_)
  refine (E0.out _ B).mono ?_
  rintro e' w1 ⟨rfl, hb⟩
  replace K0 := K0.later hb
  replace K1 := K1.later hb
  replace B := Wd.Ge.trans B hb
  clear hb
  clear HK
  have HK := Lib.hid K1
  go_wp2_with (with_reducible refine load_c rfl (.tmp 3) rfl (w.heap.size + 1) rfl HK.out ?_)
  refine (E1.out _ B).mono ?_
  rintro e' w2 ⟨rfl, hb⟩
  replace K0 := K0.later hb
  replace K1 := K1.later hb
  replace B := Wd.Ge.trans B hb
  clear hb
  clear HK E0 E1
  go_wp2_with fail
  refine (D1.out _).mono ?_
  rintro e' u5 ⟨hb, x, rfl, hx⟩
  replace K0 := K0.later hb
  replace K1 := K1.later hb
  replace B := Wd.Ge.trans B hb
  clear hb
  rw [be1.out.1] at hx
  obtain ⟨A5, m5, p5, B5, k5, q5, rfl, sa5, sb5, _⟩ := hx
  rw [be1.out.2.1, be1.out.2.2]
  dsimp only at sa5 sb5 ⊢
  have F5 : Blk (u5.alloc (.cells #[.int .u64 0, .int .u32 0, .int .u64 0, .int .u64 0, .slice none 0 0, .slice none 0 0] 26)) u5.heap.size 26 (csC 0 0 0 0 none 0 0 none 0 0) := Blk.new u5 26 _
  go_upto_region 8 with (with_reducible refine store_c rfl (.tmp 9) (.tmp 43) rfl u5.heap.size rfl rfl F5 ?_; rw [World.setRow_alloc_new])
  have K5 : Blk (u5.alloc (.cells (csC g1 e1 l1 v1 A5 m5 p5 B5 k5 q5) 26)) u5.heap.size 26 (csC g1 e1 l1 v1 A5 m5 p5 B5 k5 q5) := Blk.new _ _ _
  have hb := below1 u5 (.cells (csC g1 e1 l1 v1 A5 m5 p5 B5 k5 q5) 26)
  replace sa5 := sa5.later hb
  replace sb5 := sb5.later hb
  replace K0 := K0.later hb
  replace K1 := K1.later hb
  replace B := Wd.Ge.trans B hb
  clear hb
  clear F5
  generalize u5.alloc (.cells (csC g1 e1 l1 v1 A5 m5 p5 B5 k5 q5) 26) = y5 at *
  generalize u5.heap.size = b5 at *
  go_wp2_with fail
  refine (D2.out _).mono ?_
  rintro e' u6 ⟨hb, x, rfl, hx⟩
  replace K0 := K0.later hb
  replace K1 := K1.later hb
  replace K5 := K5.later hb
  replace sa5 := sa5.later hb
  replace sb5 := sb5.later hb
  replace B := Wd.Ge.trans B hb
  clear hb
  rw [be2.out.1] at hx
  obtain ⟨A6, m6, p6, B6, k6, q6, rfl, sa6, sb6, _⟩ := hx
  rw [be2.out.2.1, be2.out.2.2]
  dsimp only at sa6 sb6 ⊢
  have F6 : Blk (u6.alloc (.cells #[.int .u64 0, .int .u32 0, .int .u64 0, .int .u64 0, .slice none 0 0, .slice none 0 0] 26)) u6.heap.size 26 (csC 0 0 0 0 none 0 0 none 0 0) := Blk.new u6 26 _
  go_upto_region 9 with (with_reducible refine store_c rfl (.tmp 12) (.tmp 50) rfl u6.heap.size rfl rfl F6 ?_; rw [World.setRow_alloc_new])
  have K6 : Blk (u6.alloc (.cells (csC g1 e1 l1 v1 A6 m6 p6 B6 k6 q6) 26)) u6.heap.size 26 (csC g1 e1 l1 v1 A6 m6 p6 B6 k6 q6) := Blk.new _ _ _
  have hb := below1 u6 (.cells (csC g1 e1 l1 v1 A6 m6 p6 B6 k6 q6) 26)
  replace sa6 := sa6.later hb
  replace sb6 := sb6.later hb
  replace K0 := K0.later hb
  replace K1 := K1.later hb
  replace K5 := K5.later hb
  replace sa5 := sa5.later hb
  replace sb5 := sb5.later hb
  replace B := Wd.Ge.trans B hb
  clear hb
  clear F6
  generalize u6.alloc (.cells (csC g1 e1 l1 v1 A6 m6 p6 B6 k6 q6) 26) = y6 at *
  generalize u6.heap.size = b6 at *
  go_wp2_with fail
  refine (D3.out _).mono ?_
  rintro e' u7 ⟨hb, x, rfl, hx⟩
  replace K0 := K0.later hb
  replace K1 := K1.later hb
  replace K5 := K5.later hb
  replace sa5 := sa5.later hb
  replace sb5 := sb5.later hb
  replace K6 := K6.later hb
  replace sa6 := sa6.later hb
  replace sb6 := sb6.later hb
  replace B := Wd.Ge.trans B hb
  clear hb
  rw [be3.out.1] at hx
  obtain ⟨A7, m7, p7, B7, k7, q7, rfl, sa7, sb7, _⟩ := hx
  rw [be3.out.2.1, be3.out.2.2]
  dsimp only at sa7 sb7 ⊢
  have F7 : Blk (u7.alloc (.cells #[.int .u64 0, .int .u32 0, .int .u64 0, .int .u64 0, .slice none 0 0, .slice none 0 0] 26)) u7.heap.size 26 (csC 0 0 0 0 none 0 0 none 0 0) := Blk.new u7 26 _
  go_upto_region 10 with (with_reducible refine store_c rfl (.tmp 15) (.tmp 56) rfl u7.heap.size rfl rfl F7 ?_; rw [World.setRow_alloc_new])
  have K7 : Blk (u7.alloc (.cells (csC g0 e0 l0 v0 A7 m7 p7 B7 k7 q7) 26)) u7.heap.size 26 (csC g0 e0 l0 v0 A7 m7 p7 B7 k7 q7) := Blk.new _ _ _
  have hb := below1 u7 (.cells (csC g0 e0 l0 v0 A7 m7 p7 B7 k7 q7) 26)
  replace sa7 := sa7.later hb
  replace sb7 := sb7.later hb
  replace K0 := K0.later hb
  replace K1 := K1.later hb
  replace K5 := K5.later hb
  replace sa5 := sa5.later hb
  replace sb5 := sb5.later hb
  replace K6 := K6.later hb
  replace sa6 := sa6.later hb
  replace sb6 := sb6.later hb
  replace B := Wd.Ge.trans B hb
  clear hb
  clear F7
  generalize u7.alloc (.cells (csC g0 e0 l0 v0 A7 m7 p7 B7 k7 q7) 26) = y7 at *
  generalize u7.heap.size = b7 at *
  have ml : ∀ (l : List Int) (m : Nat), m = (l.take 20).length → m ≤ maxLen := fun l m h => by rw [h, List.length_take]; unfold maxLen; omega
  have m5l := ml _ _ sa5.len
  have k5l := ml _ _ sb5.len
  have m6l := ml _ _ sa6.len
  have k6l := ml _ _ sb6.len
  have m7l := ml _ _ sa7.len
  have k7l := ml _ _ sb7.len
  clear ml
  have I : Its w [(w.heap.size, csC g0 e0 l0 v0 A0 c0 p0 B0 d0 q0), (w.heap.size + 1, csC g1 e1 l1 v1 A1 c1 p1 B1 d1 q1), (b5, csC g1 e1 l1 v1 A5 m5 p5 B5 k5 q5), (b6, csC g1 e1 l1 v1 A6 m6 p6 B6 k6 q6), (b7, csC g0 e0 l0 v0 A7 m7 p7 B7 k7 q7)] [(A5, m5, o1.take 20), (B5, k5, n1.take 20), (A6, m6, o1.take 20), (B6, k6, n1.take 20), (A7, m7, o0.take 20), (B7, k7, n0.take 20)] y7 := ((((((Its.nil B).cons K7).cons K6).cons K5).cons K1).cons K0).scons sb7 |>.scons sa7 |>.scons sb6 |>.scons sa6 |>.scons sb5 |>.scons sa5
  clear B K0 K1 K5 K6 K7 sa5 sb5 sa6 sb6 sa7 sb7 D1 D2 D3 be1 be2 be3
  have hne : Nonempty (In (Its w [(w.heap.size, csC g0 e0 l0 v0 A0 c0 p0 B0 d0 q0), (w.heap.size + 1, csC g1 e1 l1 v1 A1 c1 p1 B1 d1 q1), (b5, csC g1 e1 l1 v1 A5 m5 p5 B5 k5 q5), (b6, csC g1 e1 l1 v1 A6 m6 p6 B6 k6 q6), (b7, csC g0 e0 l0 v0 A7 m7 p7 B7 k7 q7)] [(A5, m5, o1.take 20), (B5, k5, n1.take 20), (A6, m6, o1.take 20), (B6, k6, n1.take 20), (A7, m7, o0.take 20), (B7, k7, n0.take 20)])) := ⟨⟨_, I⟩⟩
  have fa0 : ∀ j : In (Its w [(w.heap.size, csC g0 e0 l0 v0 A0 c0 p0 B0 d0 q0), (w.heap.size + 1, csC g1 e1 l1 v1 A1 c1 p1 B1 d1 q1), (b5, csC g1 e1 l1 v1 A5 m5 p5 B5 k5 q5), (b6, csC g1 e1 l1 v1 A6 m6 p6 B6 k6 q6), (b7, csC g0 e0 l0 v0 A7 m7 p7 B7 k7 q7)] [(A5, m5, o1.take 20), (B5, k5, n1.take 20), (A6, m6, o1.take 20), (B6, k6, n1.take 20), (A7, m7, o0.take 20), (B7, k7, n0.take 20)]), j.W.cell? ⟨w.heap.size, 0, none⟩ = some (.int .u64 g0) := fun j => (j.h.at_ 0 rfl).cell 0
  have fa1 : ∀ j : In (Its w [(w.heap.size, csC g0 e0 l0 v0 A0 c0 p0 B0 d0 q0), (w.heap.size + 1, csC g1 e1 l1 v1 A1 c1 p1 B1 d1 q1), (b5, csC g1 e1 l1 v1 A5 m5 p5 B5 k5 q5), (b6, csC g1 e1 l1 v1 A6 m6 p6 B6 k6 q6), (b7, csC g0 e0 l0 v0 A7 m7 p7 B7 k7 q7)] [(A5, m5, o1.take 20), (B5, k5, n1.take 20), (A6, m6, o1.take 20), (B6, k6, n1.take 20), (A7, m7, o0.take 20), (B7, k7, n0.take 20)]), j.W.cell? ⟨w.heap.size, 1, none⟩ = some (.int .u32 e0) := fun j => (j.h.at_ 0 rfl).cell 1
  have fa2 : ∀ j : In (Its w [(w.heap.size, csC g0 e0 l0 v0 A0 c0 p0 B0 d0 q0), (w.heap.size + 1, csC g1 e1 l1 v1 A1 c1 p1 B1 d1 q1), (b5, csC g1 e1 l1 v1 A5 m5 p5 B5 k5 q5), (b6, csC g1 e1 l1 v1 A6 m6 p6 B6 k6 q6), (b7, csC g0 e0 l0 v0 A7 m7 p7 B7 k7 q7)] [(A5, m5, o1.take 20), (B5, k5, n1.take 20), (A6, m6, o1.take 20), (B6, k6, n1.take 20), (A7, m7, o0.take 20), (B7, k7, n0.take 20)]), j.W.cell? ⟨w.heap.size, 2, none⟩ = some (.int .u64 l0) := fun j => (j.h.at_ 0 rfl).cell 2
  have fa3 : ∀ j : In (Its w [(w.heap.size, csC g0 e0 l0 v0 A0 c0 p0 B0 d0 q0), (w.heap.size + 1, csC g1 e1 l1 v1 A1 c1 p1 B1 d1 q1), (b5, csC g1 e1 l1 v1 A5 m5 p5 B5 k5 q5), (b6, csC g1 e1 l1 v1 A6 m6 p6 B6 k6 q6), (b7, csC g0 e0 l0 v0 A7 m7 p7 B7 k7 q7)] [(A5, m5, o1.take 20), (B5, k5, n1.take 20), (A6, m6, o1.take 20), (B6, k6, n1.take 20), (A7, m7, o0.take 20), (B7, k7, n0.take 20)]), j.W.cell? ⟨w.heap.size, 3, none⟩ = some (.int .u64 v0) := fun j => (j.h.at_ 0 rfl).cell 3
  have fa4 : ∀ j : In (Its w [(w.heap.size, csC g0 e0 l0 v0 A0 c0 p0 B0 d0 q0), (w.heap.size + 1, csC g1 e1 l1 v1 A1 c1 p1 B1 d1 q1), (b5, csC g1 e1 l1 v1 A5 m5 p5 B5 k5 q5), (b6, csC g1 e1 l1 v1 A6 m6 p6 B6 k6 q6), (b7, csC g0 e0 l0 v0 A7 m7 p7 B7 k7 q7)] [(A5, m5, o1.take 20), (B5, k5, n1.take 20), (A6, m6, o1.take 20), (B6, k6, n1.take 20), (A7, m7, o0.take 20), (B7, k7, n0.take 20)]), j.W.cell? ⟨w.heap.size, 4, none⟩ = some (.slice A0 c0 p0) := fun j => (j.h.at_ 0 rfl).cell 4
  have fa5 : ∀ j : In (Its w [(w.heap.size, csC g0 e0 l0 v0 A0 c0 p0 B0 d0 q0), (w.heap.size + 1, csC g1 e1 l1 v1 A1 c1 p1 B1 d1 q1), (b5, csC g1 e1 l1 v1 A5 m5 p5 B5 k5 q5), (b6, csC g1 e1 l1 v1 A6 m6 p6 B6 k6 q6), (b7, csC g0 e0 l0 v0 A7 m7 p7 B7 k7 q7)] [(A5, m5, o1.take 20), (B5, k5, n1.take 20), (A6, m6, o1.take 20), (B6, k6, n1.take 20), (A7, m7, o0.take 20), (B7, k7, n0.take 20)]), j.W.cell? ⟨w.heap.size, 5, none⟩ = some (.slice B0 d0 q0) := fun j => (j.h.at_ 0 rfl).cell 5
  have fb0 : ∀ j : In (Its w [(w.heap.size, csC g0 e0 l0 v0 A0 c0 p0 B0 d0 q0), (w.heap.size + 1, csC g1 e1 l1 v1 A1 c1 p1 B1 d1 q1), (b5, csC g1 e1 l1 v1 A5 m5 p5 B5 k5 q5), (b6, csC g1 e1 l1 v1 A6 m6 p6 B6 k6 q6), (b7, csC g0 e0 l0 v0 A7 m7 p7 B7 k7 q7)] [(A5, m5, o1.take 20), (B5, k5, n1.take 20), (A6, m6, o1.take 20), (B6, k6, n1.take 20), (A7, m7, o0.take 20), (B7, k7, n0.take 20)]), j.W.cell? ⟨w.heap.size + 1, 0, none⟩ = some (.int .u64 g1) := fun j => (j.h.at_ 1 rfl).cell 0
  have fb1 : ∀ j : In (Its w [(w.heap.size, csC g0 e0 l0 v0 A0 c0 p0 B0 d0 q0), (w.heap.size + 1, csC g1 e1 l1 v1 A1 c1 p1 B1 d1 q1), (b5, csC g1 e1 l1 v1 A5 m5 p5 B5 k5 q5), (b6, csC g1 e1 l1 v1 A6 m6 p6 B6 k6 q6), (b7, csC g0 e0 l0 v0 A7 m7 p7 B7 k7 q7)] [(A5, m5, o1.take 20), (B5, k5, n1.take 20), (A6, m6, o1.take 20), (B6, k6, n1.take 20), (A7, m7, o0.take 20), (B7, k7, n0.take 20)]), j.W.cell? ⟨w.heap.size + 1, 1, none⟩ = some (.int .u32 e1) := fun j => (j.h.at_ 1 rfl).cell 1
  have fb2 : ∀ j : In (Its w [(w.heap.size, csC g0 e0 l0 v0 A0 c0 p0 B0 d0 q0), (w.heap.size + 1, csC g1 e1 l1 v1 A1 c1 p1 B1 d1 q1), (b5, csC g1 e1 l1 v1 A5 m5 p5 B5 k5 q5), (b6, csC g1 e1 l1 v1 A6 m6 p6 B6 k6 q6), (b7, csC g0 e0 l0 v0 A7 m7 p7 B7 k7 q7)] [(A5, m5, o1.take 20), (B5, k5, n1.take 20), (A6, m6, o1.take 20), (B6, k6, n1.take 20), (A7, m7, o0.take 20), (B7, k7, n0.take 20)]), j.W.cell? ⟨w.heap.size + 1, 2, none⟩ = some (.int .u64 l1) := fun j => (j.h.at_ 1 rfl).cell 2
  have fb3 : ∀ j : In (Its w [(w.heap.size, csC g0 e0 l0 v0 A0 c0 p0 B0 d0 q0), (w.heap.size + 1, csC g1 e1 l1 v1 A1 c1 p1 B1 d1 q1), (b5, csC g1 e1 l1 v1 A5 m5 p5 B5 k5 q5), (b6, csC g1 e1 l1 v1 A6 m6 p6 B6 k6 q6), (b7, csC g0 e0 l0 v0 A7 m7 p7 B7 k7 q7)] [(A5, m5, o1.take 20), (B5, k5, n1.take 20), (A6, m6, o1.take 20), (B6, k6, n1.take 20), (A7, m7, o0.take 20), (B7, k7, n0.take 20)]), j.W.cell? ⟨w.heap.size + 1, 3, none⟩ = some (.int .u64 v1) := fun j => (j.h.at_ 1 rfl).cell 3
  have fb4 : ∀ j : In (Its w [(w.heap.size, csC g0 e0 l0 v0 A0 c0 p0 B0 d0 q0), (w.heap.size + 1, csC g1 e1 l1 v1 A1 c1 p1 B1 d1 q1), (b5, csC g1 e1 l1 v1 A5 m5 p5 B5 k5 q5), (b6, csC g1 e1 l1 v1 A6 m6 p6 B6 k6 q6), (b7, csC g0 e0 l0 v0 A7 m7 p7 B7 k7 q7)] [(A5, m5, o1.take 20), (B5, k5, n1.take 20), (A6, m6, o1.take 20), (B6, k6, n1.take 20), (A7, m7, o0.take 20), (B7, k7, n0.take 20)]), j.W.cell? ⟨w.heap.size + 1, 4, none⟩ = some (.slice A1 c1 p1) := fun j => (j.h.at_ 1 rfl).cell 4
  have fb5 : ∀ j : In (Its w [(w.heap.size, csC g0 e0 l0 v0 A0 c0 p0 B0 d0 q0), (w.heap.size + 1, csC g1 e1 l1 v1 A1 c1 p1 B1 d1 q1), (b5, csC g1 e1 l1 v1 A5 m5 p5 B5 k5 q5), (b6, csC g1 e1 l1 v1 A6 m6 p6 B6 k6 q6), (b7, csC g0 e0 l0 v0 A7 m7 p7 B7 k7 q7)] [(A5, m5, o1.take 20), (B5, k5, n1.take 20), (A6, m6, o1.take 20), (B6, k6, n1.take 20), (A7, m7, o0.take 20), (B7, k7, n0.take 20)]), j.W.cell? ⟨w.heap.size + 1, 5, none⟩ = some (.slice B1 d1 q1) := fun j => (j.h.at_ 1 rfl).cell 5
  have fx0 : ∀ j : In (Its w [(w.heap.size, csC g0 e0 l0 v0 A0 c0 p0 B0 d0 q0), (w.heap.size + 1, csC g1 e1 l1 v1 A1 c1 p1 B1 d1 q1), (b5, csC g1 e1 l1 v1 A5 m5 p5 B5 k5 q5), (b6, csC g1 e1 l1 v1 A6 m6 p6 B6 k6 q6), (b7, csC g0 e0 l0 v0 A7 m7 p7 B7 k7 q7)] [(A5, m5, o1.take 20), (B5, k5, n1.take 20), (A6, m6, o1.take 20), (B6, k6, n1.take 20), (A7, m7, o0.take 20), (B7, k7, n0.take 20)]), j.W.cell? ⟨b5, 0, none⟩ = some (.int .u64 g1) := fun j => (j.h.at_ 2 rfl).cell 0
  have fx1 : ∀ j : In (Its w [(w.heap.size, csC g0 e0 l0 v0 A0 c0 p0 B0 d0 q0), (w.heap.size + 1, csC g1 e1 l1 v1 A1 c1 p1 B1 d1 q1), (b5, csC g1 e1 l1 v1 A5 m5 p5 B5 k5 q5), (b6, csC g1 e1 l1 v1 A6 m6 p6 B6 k6 q6), (b7, csC g0 e0 l0 v0 A7 m7 p7 B7 k7 q7)] [(A5, m5, o1.take 20), (B5, k5, n1.take 20), (A6, m6, o1.take 20), (B6, k6, n1.take 20), (A7, m7, o0.take 20), (B7, k7, n0.take 20)]), j.W.cell? ⟨b5, 1, none⟩ = some (.int .u32 e1) := fun j => (j.h.at_ 2 rfl).cell 1
  have fx2 : ∀ j : In (Its w [(w.heap.size, csC g0 e0 l0 v0 A0 c0 p0 B0 d0 q0), (w.heap.size + 1, csC g1 e1 l1 v1 A1 c1 p1 B1 d1 q1), (b5, csC g1 e1 l1 v1 A5 m5 p5 B5 k5 q5), (b6, csC g1 e1 l1 v1 A6 m6 p6 B6 k6 q6), (b7, csC g0 e0 l0 v0 A7 m7 p7 B7 k7 q7)] [(A5, m5, o1.take 20), (B5, k5, n1.take 20), (A6, m6, o1.take 20), (B6, k6, n1.take 20), (A7, m7, o0.take 20), (B7, k7, n0.take 20)]), j.W.cell? ⟨b5, 2, none⟩ = some (.int .u64 l1) := fun j => (j.h.at_ 2 rfl).cell 2
  have fx3 : ∀ j : In (Its w [(w.heap.size, csC g0 e0 l0 v0 A0 c0 p0 B0 d0 q0), (w.heap.size + 1, csC g1 e1 l1 v1 A1 c1 p1 B1 d1 q1), (b5, csC g1 e1 l1 v1 A5 m5 p5 B5 k5 q5), (b6, csC g1 e1 l1 v1 A6 m6 p6 B6 k6 q6), (b7, csC g0 e0 l0 v0 A7 m7 p7 B7 k7 q7)] [(A5, m5, o1.take 20), (B5, k5, n1.take 20), (A6, m6, o1.take 20), (B6, k6, n1.take 20), (A7, m7, o0.take 20), (B7, k7, n0.take 20)]), j.W.cell? ⟨b5, 3, none⟩ = some (.int .u64 v1) := fun j => (j.h.at_ 2 rfl).cell 3
  have fx4 : ∀ j : In (Its w [(w.heap.size, csC g0 e0 l0 v0 A0 c0 p0 B0 d0 q0), (w.heap.size + 1, csC g1 e1 l1 v1 A1 c1 p1 B1 d1 q1), (b5, csC g1 e1 l1 v1 A5 m5 p5 B5 k5 q5), (b6, csC g1 e1 l1 v1 A6 m6 p6 B6 k6 q6), (b7, csC g0 e0 l0 v0 A7 m7 p7 B7 k7 q7)] [(A5, m5, o1.take 20), (B5, k5, n1.take 20), (A6, m6, o1.take 20), (B6, k6, n1.take 20), (A7, m7, o0.take 20), (B7, k7, n0.take 20)]), j.W.cell? ⟨b5, 4, none⟩ = some (.slice A5 m5 p5) := fun j => (j.h.at_ 2 rfl).cell 4
  have fx5 : ∀ j : In (Its w [(w.heap.size, csC g0 e0 l0 v0 A0 c0 p0 B0 d0 q0), (w.heap.size + 1, csC g1 e1 l1 v1 A1 c1 p1 B1 d1 q1), (b5, csC g1 e1 l1 v1 A5 m5 p5 B5 k5 q5), (b6, csC g1 e1 l1 v1 A6 m6 p6 B6 k6 q6), (b7, csC g0 e0 l0 v0 A7 m7 p7 B7 k7 q7)] [(A5, m5, o1.take 20), (B5, k5, n1.take 20), (A6, m6, o1.take 20), (B6, k6, n1.take 20), (A7, m7, o0.take 20), (B7, k7, n0.take 20)]), j.W.cell? ⟨b5, 5, none⟩ = some (.slice B5 k5 q5) := fun j => (j.h.at_ 2 rfl).cell 5
  have fy0 : ∀ j : In (Its w [(w.heap.size, csC g0 e0 l0 v0 A0 c0 p0 B0 d0 q0), (w.heap.size + 1, csC g1 e1 l1 v1 A1 c1 p1 B1 d1 q1), (b5, csC g1 e1 l1 v1 A5 m5 p5 B5 k5 q5), (b6, csC g1 e1 l1 v1 A6 m6 p6 B6 k6 q6), (b7, csC g0 e0 l0 v0 A7 m7 p7 B7 k7 q7)] [(A5, m5, o1.take 20), (B5, k5, n1.take 20), (A6, m6, o1.take 20), (B6, k6, n1.take 20), (A7, m7, o0.take 20), (B7, k7, n0.take 20)]), j.W.cell? ⟨b6, 0, none⟩ = some (.int .u64 g1) := fun j => (j.h.at_ 3 rfl).cell 0
  have fy1 : ∀ j : In (Its w [(w.heap.size, csC g0 e0 l0 v0 A0 c0 p0 B0 d0 q0), (w.heap.size + 1, csC g1 e1 l1 v1 A1 c1 p1 B1 d1 q1), (b5, csC g1 e1 l1 v1 A5 m5 p5 B5 k5 q5), (b6, csC g1 e1 l1 v1 A6 m6 p6 B6 k6 q6), (b7, csC g0 e0 l0 v0 A7 m7 p7 B7 k7 q7)] [(A5, m5, o1.take 20), (B5, k5, n1.take 20), (A6, m6, o1.take 20), (B6, k6, n1.take 20), (A7, m7, o0.take 20), (B7, k7, n0.take 20)]), j.W.cell? ⟨b6, 1, none⟩ = some (.int .u32 e1) := fun j => (j.h.at_ 3 rfl).cell 1
  have fy2 : ∀ j : In (Its w [(w.heap.size, csC g0 e0 l0 v0 A0 c0 p0 B0 d0 q0), (w.heap.size + 1, csC g1 e1 l1 v1 A1 c1 p1 B1 d1 q1), (b5, csC g1 e1 l1 v1 A5 m5 p5 B5 k5 q5), (b6, csC g1 e1 l1 v1 A6 m6 p6 B6 k6 q6), (b7, csC g0 e0 l0 v0 A7 m7 p7 B7 k7 q7)] [(A5, m5, o1.take 20), (B5, k5, n1.take 20), (A6, m6, o1.take 20), (B6, k6, n1.take 20), (A7, m7, o0.take 20), (B7, k7, n0.take 20)]), j.W.cell? ⟨b6, 2, none⟩ = some (.int .u64 l1) := fun j => (j.h.at_ 3 rfl).cell 2
  have fy3 : ∀ j : In (Its w [(w.heap.size, csC g0 e0 l0 v0 A0 c0 p0 B0 d0 q0), (w.heap.size + 1, csC g1 e1 l1 v1 A1 c1 p1 B1 d1 q1), (b5, csC g1 e1 l1 v1 A5 m5 p5 B5 k5 q5), (b6, csC g1 e1 l1 v1 A6 m6 p6 B6 k6 q6), (b7, csC g0 e0 l0 v0 A7 m7 p7 B7 k7 q7)] [(A5, m5, o1.take 20), (B5, k5, n1.take 20), (A6, m6, o1.take 20), (B6, k6, n1.take 20), (A7, m7, o0.take 20), (B7, k7, n0.take 20)]), j.W.cell? ⟨b6, 3, none⟩ = some (.int .u64 v1) := fun j => (j.h.at_ 3 rfl).cell 3
  have fy4 : ∀ j : In (Its w [(w.heap.size, csC g0 e0 l0 v0 A0 c0 p0 B0 d0 q0), (w.heap.size + 1, csC g1 e1 l1 v1 A1 c1 p1 B1 d1 q1), (b5, csC g1 e1 l1 v1 A5 m5 p5 B5 k5 q5), (b6, csC g1 e1 l1 v1 A6 m6 p6 B6 k6 q6), (b7, csC g0 e0 l0 v0 A7 m7 p7 B7 k7 q7)] [(A5, m5, o1.take 20), (B5, k5, n1.take 20), (A6, m6, o1.take 20), (B6, k6, n1.take 20), (A7, m7, o0.take 20), (B7, k7, n0.take 20)]), j.W.cell? ⟨b6, 4, none⟩ = some (.slice A6 m6 p6) := fun j => (j.h.at_ 3 rfl).cell 4
  have fy5 : ∀ j : In (Its w [(w.heap.size, csC g0 e0 l0 v0 A0 c0 p0 B0 d0 q0), (w.heap.size + 1, csC g1 e1 l1 v1 A1 c1 p1 B1 d1 q1), (b5, csC g1 e1 l1 v1 A5 m5 p5 B5 k5 q5), (b6, csC g1 e1 l1 v1 A6 m6 p6 B6 k6 q6), (b7, csC g0 e0 l0 v0 A7 m7 p7 B7 k7 q7)] [(A5, m5, o1.take 20), (B5, k5, n1.take 20), (A6, m6, o1.take 20), (B6, k6, n1.take 20), (A7, m7, o0.take 20), (B7, k7, n0.take 20)]), j.W.cell? ⟨b6, 5, none⟩ = some (.slice B6 k6 q6) := fun j => (j.h.at_ 3 rfl).cell 5
  have fz0 : ∀ j : In (Its w [(w.heap.size, csC g0 e0 l0 v0 A0 c0 p0 B0 d0 q0), (w.heap.size + 1, csC g1 e1 l1 v1 A1 c1 p1 B1 d1 q1), (b5, csC g1 e1 l1 v1 A5 m5 p5 B5 k5 q5), (b6, csC g1 e1 l1 v1 A6 m6 p6 B6 k6 q6), (b7, csC g0 e0 l0 v0 A7 m7 p7 B7 k7 q7)] [(A5, m5, o1.take 20), (B5, k5, n1.take 20), (A6, m6, o1.take 20), (B6, k6, n1.take 20), (A7, m7, o0.take 20), (B7, k7, n0.take 20)]), j.W.cell? ⟨b7, 0, none⟩ = some (.int .u64 g0) := fun j => (j.h.at_ 4 rfl).cell 0
  have fz1 : ∀ j : In (Its w [(w.heap.size, csC g0 e0 l0 v0 A0 c0 p0 B0 d0 q0), (w.heap.size + 1, csC g1 e1 l1 v1 A1 c1 p1 B1 d1 q1), (b5, csC g1 e1 l1 v1 A5 m5 p5 B5 k5 q5), (b6, csC g1 e1 l1 v1 A6 m6 p6 B6 k6 q6), (b7, csC g0 e0 l0 v0 A7 m7 p7 B7 k7 q7)] [(A5, m5, o1.take 20), (B5, k5, n1.take 20), (A6, m6, o1.take 20), (B6, k6, n1.take 20), (A7, m7, o0.take 20), (B7, k7, n0.take 20)]), j.W.cell? ⟨b7, 1, none⟩ = some (.int .u32 e0) := fun j => (j.h.at_ 4 rfl).cell 1
  have fz2 : ∀ j : In (Its w [(w.heap.size, csC g0 e0 l0 v0 A0 c0 p0 B0 d0 q0), (w.heap.size + 1, csC g1 e1 l1 v1 A1 c1 p1 B1 d1 q1), (b5, csC g1 e1 l1 v1 A5 m5 p5 B5 k5 q5), (b6, csC g1 e1 l1 v1 A6 m6 p6 B6 k6 q6), (b7, csC g0 e0 l0 v0 A7 m7 p7 B7 k7 q7)] [(A5, m5, o1.take 20), (B5, k5, n1.take 20), (A6, m6, o1.take 20), (B6, k6, n1.take 20), (A7, m7, o0.take 20), (B7, k7, n0.take 20)]), j.W.cell? ⟨b7, 2, none⟩ = some (.int .u64 l0) := fun j => (j.h.at_ 4 rfl).cell 2
  have fz3 : ∀ j : In (Its w [(w.heap.size, csC g0 e0 l0 v0 A0 c0 p0 B0 d0 q0), (w.heap.size + 1, csC g1 e1 l1 v1 A1 c1 p1 B1 d1 q1), (b5, csC g1 e1 l1 v1 A5 m5 p5 B5 k5 q5), (b6, csC g1 e1 l1 v1 A6 m6 p6 B6 k6 q6), (b7, csC g0 e0 l0 v0 A7 m7 p7 B7 k7 q7)] [(A5, m5, o1.take 20), (B5, k5, n1.take 20), (A6, m6, o1.take 20), (B6, k6, n1.take 20), (A7, m7, o0.take 20), (B7, k7, n0.take 20)]), j.W.cell? ⟨b7, 3, none⟩ = some (.int .u64 v0) := fun j => (j.h.at_ 4 rfl).cell 3
  have fz4 : ∀ j : In (Its w [(w.heap.size, csC g0 e0 l0 v0 A0 c0 p0 B0 d0 q0), (w.heap.size + 1, csC g1 e1 l1 v1 A1 c1 p1 B1 d1 q1), (b5, csC g1 e1 l1 v1 A5 m5 p5 B5 k5 q5), (b6, csC g1 e1 l1 v1 A6 m6 p6 B6 k6 q6), (b7, csC g0 e0 l0 v0 A7 m7 p7 B7 k7 q7)] [(A5, m5, o1.take 20), (B5, k5, n1.take 20), (A6, m6, o1.take 20), (B6, k6, n1.take 20), (A7, m7, o0.take 20), (B7, k7, n0.take 20)]), j.W.cell? ⟨b7, 4, none⟩ = some (.slice A7 m7 p7) := fun j => (j.h.at_ 4 rfl).cell 4
  have fz5 : ∀ j : In (Its w [(w.heap.size, csC g0 e0 l0 v0 A0 c0 p0 B0 d0 q0), (w.heap.size + 1, csC g1 e1 l1 v1 A1 c1 p1 B1 d1 q1), (b5, csC g1 e1 l1 v1 A5 m5 p5 B5 k5 q5), (b6, csC g1 e1 l1 v1 A6 m6 p6 B6 k6 q6), (b7, csC g0 e0 l0 v0 A7 m7 p7 B7 k7 q7)] [(A5, m5, o1.take 20), (B5, k5, n1.take 20), (A6, m6, o1.take 20), (B6, k6, n1.take 20), (A7, m7, o0.take 20), (B7, k7, n0.take 20)]), j.W.cell? ⟨b7, 5, none⟩ = some (.slice B7 k7 q7) := fun j => (j.h.at_ 4 rfl).cell 5
  have II := Lib.hid I
  clear I
  have SQ0 := Lib.hid (fun W (hi : Its w [(w.heap.size, csC g0 e0 l0 v0 A0 c0 p0 B0 d0 q0), (w.heap.size + 1, csC g1 e1 l1 v1 A1 c1 p1 B1 d1 q1), (b5, csC g1 e1 l1 v1 A5 m5 p5 B5 k5 q5), (b6, csC g1 e1 l1 v1 A6 m6 p6 B6 k6 q6), (b7, csC g0 e0 l0 v0 A7 m7 p7 B7 k7 q7)] [(A5, m5, o1.take 20), (B5, k5, n1.take 20), (A6, m6, o1.take 20), (B6, k6, n1.take 20), (A7, m7, o0.take 20), (B7, k7, n0.take 20)] W) => same_is g0 e0 l0 v0 A7 m7 p7 B7 k7 q7 g0 e0 l0 v0 A0 c0 p0 B0 d0 q0 (o0.take 20) (n0.take 20) (o0.take 20) (n0.take 20) true W (hi.sl 4 rfl) (hi.sl 5 rfl) (SA0.out.later hi.b) (SB0.out.later hi.b) m7l k7l (decide_eq_true rfl))
  refine region_class (Its w [(w.heap.size, csC g0 e0 l0 v0 A0 c0 p0 B0 d0 q0), (w.heap.size + 1, csC g1 e1 l1 v1 A1 c1 p1 B1 d1 q1), (b5, csC g1 e1 l1 v1 A5 m5 p5 B5 k5 q5), (b6, csC g1 e1 l1 v1 A6 m6 p6 B6 k6 q6), (b7, csC g0 e0 l0 v0 A7 m7 p7 B7 k7 q7)] [(A5, m5, o1.take 20), (B5, k5, n1.take 20), (A6, m6, o1.take 20), (B6, k6, n1.take 20), (A7, m7, o0.take 20), (B7, k7, n0.take 20)]) (by kernel_rfl) (by kernel_rfl) II.out.drawn ?_
  repeat (go_big_quiet_step (first
    | (go_at_call 12; with_reducible exact class_call _ (fun hi => its_ge hi (ref_any g0 e0 l0 v0 A7 m7 p7 B7 k7 q7 _)))
    | (go_at_call 12; with_reducible exact class_call _ (fun hi => its_ge hi (ref_any g0 e0 l0 v0 A0 c0 p0 B0 d0 q0 _)))
    | (go_at_call 19; with_reducible exact class_call _ (fun hi => its_ge hi (SQ0.out _ hi)))))
  refine wpQuiet_nil ?_
  rintro _ ⟨j1, rfl⟩
  have ga := fa0 j1
  have gb := fb0 j1
  go_wp2_with fail
  refine region_class (Its w [(w.heap.size, csC g0 e0 l0 v0 A0 c0 p0 B0 d0 q0), (w.heap.size + 1, csC g1 e1 l1 v1 A1 c1 p1 B1 d1 q1), (b5, csC g1 e1 l1 v1 A5 m5 p5 B5 k5 q5), (b6, csC g1 e1 l1 v1 A6 m6 p6 B6 k6 q6), (b7, csC g0 e0 l0 v0 A7 m7 p7 B7 k7 q7)] [(A5, m5, o1.take 20), (B5, k5, n1.take 20), (A6, m6, o1.take 20), (B6, k6, n1.take 20), (A7, m7, o0.take 20), (B7, k7, n0.take 20)]) (by kernel_rfl) (by kernel_rfl) j1.h.drawn ?_
  have SQ3 := Lib.hid (fun W (hi : Its w [(w.heap.size, csC g0 e0 l0 v0 A0 c0 p0 B0 d0 q0), (w.heap.size + 1, csC g1 e1 l1 v1 A1 c1 p1 B1 d1 q1), (b5, csC g1 e1 l1 v1 A5 m5 p5 B5 k5 q5), (b6, csC g1 e1 l1 v1 A6 m6 p6 B6 k6 q6), (b7, csC g0 e0 l0 v0 A7 m7 p7 B7 k7 q7)] [(A5, m5, o1.take 20), (B5, k5, n1.take 20), (A6, m6, o1.take 20), (B6, k6, n1.take 20), (A7, m7, o0.take 20), (B7, k7, n0.take 20)] W) => same_is g1 e1 l1 v1 A5 m5 p5 B5 k5 q5 g1 e1 l1 v1 A6 m6 p6 B6 k6 q6 (o1.take 20) (n1.take 20) (o1.take 20) (n1.take 20) true W (hi.sl 0 rfl) (hi.sl 1 rfl) (hi.sl 2 rfl) (hi.sl 3 rfl) m5l k5l (decide_eq_true rfl))
  repeat (go_big_quiet_step (first
    | (go_at_call 12; with_reducible exact class_call _ (fun hi => its_ge hi (ref_any g1 e1 l1 v1 A5 m5 p5 B5 k5 q5 _)))
    | (go_at_call 12; with_reducible exact class_call _ (fun hi => its_ge hi (ref_any g1 e1 l1 v1 A6 m6 p6 B6 k6 q6 _)))
    | (go_at_call 19; with_reducible exact class_call _ (fun hi => its_ge hi (SQ3.out _ hi)))
    | (go_at_call 20; with_reducible exact class_call _ (fun hi => its_ge hi (fixed_any _)))))
  refine wpQuiet_nil ?_
  rintro _ ⟨j, rfl⟩
  go_wp2_with fail
  go_ret
  exact ⟨rfl, j.h.b⟩

set_option maxRecDepth 100000 in
set_option maxHeartbeats 16000000 in
theorem gt (g0 e0 l0 v0 : Int) (A0 : Option Addr) (m0 p0 : Nat) (B0 : Option Addr) (k0 q0 : Nat) (o0 n0 : List Int) (g1 e1 l1 v1 : Int) (A1 : Option Addr) (m1 p1 : Nat) (B1 : Option Addr) (k1 q1 : Nat) (o1 n1 : List Int) (S0 S1 : ByteArray) (w : World) (hg0 : 0 ≤ g0 ∧ g0 < 18446744073709551616) (he0 : 0 ≤ e0 ∧ e0 < 4294967296) (hl0 : 0 ≤ l0 ∧ l0 < 18446744073709551616) (hv0 : 0 ≤ v0 ∧ v0 < 18446744073709551616) (sa0 : Sl w A0 m0 o0) (sb0 : Sl w B0 k0 n0) (hm0 : m0 ≤ maxLen ∧ k0 ≤ maxLen) (hp0 : m0 ≤ p0 ∧ k0 ≤ q0) (hg1 : 0 ≤ g1 ∧ g1 < 18446744073709551616) (he1 : 0 ≤ e1 ∧ e1 < 4294967296) (hl1 : 0 ≤ l1 ∧ l1 < 18446744073709551616) (hv1 : 0 ≤ v1 ∧ v1 < 18446744073709551616) (sa1 : Sl w A1 m1 o1) (sb1 : Sl w B1 k1 n1) (hm1 : m1 ≤ maxLen ∧ k1 ≤ maxLen) (hp1 : m1 ≤ p1 ∧ k1 ≤ q1) (E0 : Hid (EncAt w g0 e0 l0 v0 A0 (cut20 m0) p0 B0 (cut20 k0) q0 S0 0)) (E1 : Hid (EncAt w g1 e1 l1 v1 A1 (cut20 m1) p1 B1 (cut20 k1) q1 S1 0)) (D1 : Hid (∀ w, Calls Try.prog 15 #[.string S0, .string S1] w (BestP S0 S1 w))) (D2 : Hid (∀ w, Calls Try.prog 15 #[.string S1, .string S0] w (BestP S1 S0 w))) (D3 : Hid (∀ w, Calls Try.prog 15 #[.string S0, .string ⟨#[]⟩] w (BestP S0 ⟨#[]⟩ w)))
    (be1 : Hid (bestC S0.data.toList S1.data.toList = (⟨g0, e0, l0, v0, o0.take 20, n0.take 20⟩ : Chk) ∧ bestI S0.data.toList S1.data.toList = 0 ∧ bestE S0.data.toList S1.data.toList = 0)) (be2 : Hid (bestC S1.data.toList S0.data.toList = (⟨g0, e0, l0, v0, o0.take 20, n0.take 20⟩ : Chk) ∧ bestI S1.data.toList S0.data.toList = 1 ∧ bestE S1.data.toList S0.data.toList = 0)) (be3 : Hid (bestC S0.data.toList (⟨#[]⟩ : ByteArray).data.toList = (⟨g0, e0, l0, v0, o0.take 20, n0.take 20⟩ : Chk) ∧ bestI S0.data.toList (⟨#[]⟩ : ByteArray).data.toList = 0 ∧ bestE S0.data.toList (⟨#[]⟩ : ByteArray).data.toList = 0)) (hq : (g0 == g1) = false) (hx : max g0 g1 = g0) :
    Calls Try.prog 6 #[.agg #[.int .u64 g0, .int .u32 e0, .int .u64 l0, .int .u64 v0, .slice A0 m0 p0, .slice B0 k0 q0], .agg #[.int .u64 g1, .int .u32 e1, .int .u64 l1, .int .u64 v1, .slice A1 m1 p1, .slice B1 k1 q1]] w fun e' w' => e' = .returned (.bool true) ∧ Below w.heap.size w w' := by
  have SA0 := Lib.hid sa0.cut
  have SB0 := Lib.hid sb0.cut
  have SA1 := Lib.hid sa1.cut
  have SB1 := Lib.hid sb1.cut
  clear sa0 sb0 sa1 sb1
  have B := below1 w (.cells #[.int .u64 g0, .int .u32 e0, .int .u64 l0, .int .u64 v0, .slice A0 m0 p0, .slice B0 k0 q0] 26)
  have K0 : Blk (w.alloc (.cells #[.int .u64 g0, .int .u32 e0, .int .u64 l0, .int .u64 v0, .slice A0 m0 p0, .slice B0 k0 q0] 26)) (w.heap.size) 26 (csC g0 e0 l0 v0 A0 m0 p0 B0 k0 q0) := blk_new w 26 (csC g0 e0 l0 v0 A0 m0 p0 B0 k0 q0) (w.heap.size) (by simp)
  have hb := below1 (w.alloc (.cells #[.int .u64 g0, .int .u32 e0, .int .u64 l0, .int .u64 v0, .slice A0 m0 p0, .slice B0 k0 q0] 26)) (.cells #[.int .u64 g1, .int .u32 e1, .int .u64 l1, .int .u64 v1, .slice A1 m1 p1, .slice B1 k1 q1] 26)
  replace K0 := K0.later hb
  replace B := Wd.Ge.trans B hb
  clear hb
  have K1 : Blk ((w.alloc (.cells #[.int .u64 g0, .int .u32 e0, .int .u64 l0, .int .u64 v0, .slice A0 m0 p0, .slice B0 k0 q0] 26)).alloc (.cells #[.int .u64 g1, .int .u32 e1, .int .u64 l1, .int .u64 v1, .slice A1 m1 p1, .slice B1 k1 q1] 26)) (w.heap.size + 1) 26 (csC g1 e1 l1 v1 A1 m1 p1 B1 k1 q1) := blk_new (w.alloc (.cells #[.int .u64 g0, .int .u32 e0, .int .u64 l0, .int .u64 v0, .slice A0 m0 p0, .slice B0 k0 q0] 26)) 26 (csC g1 e1 l1 v1 A1 m1 p1 B1 k1 q1) (w.heap.size + 1) (by simp)
  have C0 := Lib.hid (fun w => lawcut_any g0 e0 l0 v0 A0 m0 p0 B0 k0 q0 w hm0.1 hm0.2 hp0.1 hp0.2)
  have C1 := Lib.hid (fun w => lawcut_any g1 e1 l1 v1 A1 m1 p1 B1 k1 q1 w hm1.1 hm1.2 hp1.1 hp1.2)
  obtain ⟨wa, EW⟩ : ∃ wa, Hid (((w.alloc (.cells #[.int .u64 g0, .int .u32 e0, .int .u64 l0, .int .u64 v0, .slice A0 m0 p0, .slice B0 k0 q0] 26)).alloc (.cells #[.int .u64 g1, .int .u32 e1, .int .u64 l1, .int .u64 v1, .slice A1 m1 p1, .slice B1 k1 q1] 26)) = wa) := ⟨_, rfl⟩
  rw [EW.out] at B K0 K1
  go_enter Try.func6, Try.ntmps6
  go_upto_region 1 with fail
  rw [EW.out]
  clear EW
  generalize cut20 m0 = c0 at *
  generalize cut20 k0 = d0 at *
  generalize cut20 m1 = c1 at *
  generalize cut20 k1 = d1 at *
  have HK := Lib.hid K0
  go_wp2_with (with_reducible refine load_c rfl (.tmp 2) rfl (w.heap.size) rfl HK.out ?_)
  refine (C0.out _).mono ?_
  rintro e' u0 ⟨rfl, hb⟩
  replace K0 := K0.later hb
  replace K1 := K1.later hb
  replace B := Wd.Ge.trans B hb
  clear hb
  clear HK
  have HK := Lib.hid K0
  go_upto_region 2 with (with_reducible refine store_c rfl (.tmp 2) (.tmp 19) rfl (w.heap.size) rfl rfl HK.out ?_)
  replace K1 := K1.far (g' := w.heap.size) (by omega) (csC g0 e0 l0 v0 A0 c0 p0 B0 d0 q0)
  replace K0 := K0.row (csC g0 e0 l0 v0 A0 c0 p0 B0 d0 q0)
  replace B := below_set B (show w.heap.size ≤ w.heap.size by omega) (csC g0 e0 l0 v0 A0 c0 p0 B0 d0 q0)
  generalize u0.setRow (w.heap.size) (csC g0 e0 l0 v0 A0 c0 p0 B0 d0 q0) = z0 at *
  clear HK C0
  have HK := Lib.hid K1
  go_wp2_with (with_reducible refine load_c rfl (.tmp 3) rfl (w.heap.size + 1) rfl HK.out ?_)
  refine (C1.out _).mono ?_
  rintro e' u1 ⟨rfl, hb⟩
  replace K0 := K0.later hb
  replace K1 := K1.later hb
  replace B := Wd.Ge.trans B hb
  clear hb
  clear HK
  have HK := Lib.hid K1
  go_upto_region 3 with (with_reducible refine store_c rfl (.tmp 3) (.tmp 21) rfl (w.heap.size + 1) rfl rfl HK.out ?_)
  replace K0 := K0.far (g' := w.heap.size + 1) (by omega) (csC g1 e1 l1 v1 A1 c1 p1 B1 d1 q1)
  replace K1 := K1.row (csC g1 e1 l1 v1 A1 c1 p1 B1 d1 q1)
  replace B := below_set B (show w.heap.size ≤ w.heap.size + 1 by omega) (csC g1 e1 l1 v1 A1 c1 p1 B1 d1 q1)
  generalize u1.setRow (w.heap.size + 1) (csC g1 e1 l1 v1 A1 c1 p1 B1 d1 q1) = z1 at *
  clear HK C1
  have HK := Lib.hid K0
  go_wp2_with (with_reducible refine load_c rfl (.tmp 2) rfl (w.heap.size) rfl HK.out ?_)
  refine (E0.out _ B).mono ?_
  rintro e' w1 ⟨rfl, hb⟩
  replace K0 := K0.later hb
  replace K1 := K1.later hb
  replace B := Wd.Ge.trans B hb
  clear hb
  clear HK
  have HK := Lib.hid K1
  go_wp2_with (with_reducible refine load_c rfl (.tmp 3) rfl (w.heap.size + 1) rfl HK.out ?_)
  refine (E1.out _ B).mono ?_
  rintro e' w2 ⟨rfl, hb⟩
  replace K0 := K0.later hb
  replace K1 := K1.later hb
  replace B := Wd.Ge.trans B hb
  clear hb
  clear HK E0 E1
  go_wp2_with fail
  refine (D1.out _).mono ?_
  rintro e' u5 ⟨hb, x, rfl, hx⟩
  replace K0 := K0.later hb
  replace K1 := K1.later hb
  replace B := Wd.Ge.trans B hb
  clear hb
  rw [be1.out.1] at hx
  obtain ⟨A5, m5, p5, B5, k5, q5, rfl, sa5, sb5, _⟩ := hx
  rw [be1.out.2.1, be1.out.2.2]
  dsimp only at sa5 sb5 ⊢
  have F5 : Blk (u5.alloc (.cells #[.int .u64 0, .int .u32 0, .int .u64 0, .int .u64 0, .slice none 0 0, .slice none 0 0] 26)) u5.heap.size 26 (csC 0 0 0 0 none 0 0 none 0 0) := Blk.new u5 26 _
  go_upto_region 8 with (with_reducible refine store_c rfl (.tmp 9) (.tmp 43) rfl u5.heap.size rfl rfl F5 ?_; rw [World.setRow_alloc_new])
  have K5 : Blk (u5.alloc (.cells (csC g0 e0 l0 v0 A5 m5 p5 B5 k5 q5) 26)) u5.heap.size 26 (csC g0 e0 l0 v0 A5 m5 p5 B5 k5 q5) := Blk.new _ _ _
  have hb := below1 u5 (.cells (csC g0 e0 l0 v0 A5 m5 p5 B5 k5 q5) 26)
  replace sa5 := sa5.later hb
  replace sb5 := sb5.later hb
  replace K0 := K0.later hb
  replace K1 := K1.later hb
  replace B := Wd.Ge.trans B hb
  clear hb
  clear F5
  generalize u5.alloc (.cells (csC g0 e0 l0 v0 A5 m5 p5 B5 k5 q5) 26) = y5 at *
  generalize u5.heap.size = b5 at *
  go_wp2_with fail
  refine (D2.out _).mono ?_
  rintro e' u6 ⟨hb, x, rfl, hx⟩
  replace K0 := K0.later hb
  replace K1 := K1.later hb
  replace K5 := K5.later hb
  replace sa5 := sa5.later hb
  replace sb5 := sb5.later hb
  replace B := Wd.Ge.trans B hb
  clear hb
  rw [be2.out.1] at hx
  obtain ⟨A6, m6, p6, B6, k6, q6, rfl, sa6, sb6, _⟩ := hx
  rw [be2.out.2.1, be2.out.2.2]
  dsimp only at sa6 sb6 ⊢
  have F6 : Blk (u6.alloc (.cells #[.int .u64 0, .int .u32 0, .int .u64 0, .int .u64 0, .slice none 0 0, .slice none 0 0] 26)) u6.heap.size 26 (csC 0 0 0 0 none 0 0 none 0 0) := Blk.new u6 26 _
  go_upto_region 9 with (with_reducible refine store_c rfl (.tmp 12) (.tmp 50) rfl u6.heap.size rfl rfl F6 ?_; rw [World.setRow_alloc_new])
  have K6 : Blk (u6.alloc (.cells (csC g0 e0 l0 v0 A6 m6 p6 B6 k6 q6) 26)) u6.heap.size 26 (csC g0 e0 l0 v0 A6 m6 p6 B6 k6 q6) := Blk.new _ _ _
  have hb := below1 u6 (.cells (csC g0 e0 l0 v0 A6 m6 p6 B6 k6 q6) 26)
  replace sa6 := sa6.later hb
  replace sb6 := sb6.later hb
  replace K0 := K0.later hb
  replace K1 := K1.later hb
  replace K5 := K5.later hb
  replace sa5 := sa5.later hb
  replace sb5 := sb5.later hb
  replace B := Wd.Ge.trans B hb
  clear hb
  clear F6
  generalize u6.alloc (.cells (csC g0 e0 l0 v0 A6 m6 p6 B6 k6 q6) 26) = y6 at *
  generalize u6.heap.size = b6 at *
  go_wp2_with fail
  refine (D3.out _).mono ?_
  rintro e' u7 ⟨hb, x, rfl, hx⟩
  replace K0 := K0.later hb
  replace K1 := K1.later hb
  replace K5 := K5.later hb
  replace sa5 := sa5.later hb
  replace sb5 := sb5.later hb
  replace K6 := K6.later hb
  replace sa6 := sa6.later hb
  replace sb6 := sb6.later hb
  replace B := Wd.Ge.trans B hb
  clear hb
  rw [be3.out.1] at hx
  obtain ⟨A7, m7, p7, B7, k7, q7, rfl, sa7, sb7, _⟩ := hx
  rw [be3.out.2.1, be3.out.2.2]
  dsimp only at sa7 sb7 ⊢
  have F7 : Blk (u7.alloc (.cells #[.int .u64 0, .int .u32 0, .int .u64 0, .int .u64 0, .slice none 0 0, .slice none 0 0] 26)) u7.heap.size 26 (csC 0 0 0 0 none 0 0 none 0 0) := Blk.new u7 26 _
  go_upto_region 10 with (with_reducible refine store_c rfl (.tmp 15) (.tmp 56) rfl u7.heap.size rfl rfl F7 ?_; rw [World.setRow_alloc_new])
  have K7 : Blk (u7.alloc (.cells (csC g0 e0 l0 v0 A7 m7 p7 B7 k7 q7) 26)) u7.heap.size 26 (csC g0 e0 l0 v0 A7 m7 p7 B7 k7 q7) := Blk.new _ _ _
  have hb := below1 u7 (.cells (csC g0 e0 l0 v0 A7 m7 p7 B7 k7 q7) 26)
  replace sa7 := sa7.later hb
  replace sb7 := sb7.later hb
  replace K0 := K0.later hb
  replace K1 := K1.later hb
  replace K5 := K5.later hb
  replace sa5 := sa5.later hb
  replace sb5 := sb5.later hb
  replace K6 := K6.later hb
  replace sa6 := sa6.later hb
  replace sb6 := sb6.later hb
  replace B := Wd.Ge.trans B hb
  clear hb
  clear F7
  generalize u7.alloc (.cells (csC g0 e0 l0 v0 A7 m7 p7 B7 k7 q7) 26) = y7 at *
  generalize u7.heap.size = b7 at *
  have ml : ∀ (l : List Int) (m : Nat), m = (l.take 20).length → m ≤ maxLen := fun l m h => by rw [h, List.length_take]; unfold maxLen; omega
  have m5l := ml _ _ sa5.len
  have k5l := ml _ _ sb5.len
  have m6l := ml _ _ sa6.len
  have k6l := ml _ _ sb6.len
  have m7l := ml _ _ sa7.len
  have k7l := ml _ _ sb7.len
  clear ml
  have I : Its w [(w.heap.size, csC g0 e0 l0 v0 A0 c0 p0 B0 d0 q0), (w.heap.size + 1, csC g1 e1 l1 v1 A1 c1 p1 B1 d1 q1), (b5, csC g0 e0 l0 v0 A5 m5 p5 B5 k5 q5), (b6, csC g0 e0 l0 v0 A6 m6 p6 B6 k6 q6), (b7, csC g0 e0 l0 v0 A7 m7 p7 B7 k7 q7)] [(A5, m5, o0.take 20), (B5, k5, n0.take 20), (A6, m6, o0.take 20), (B6, k6, n0.take 20), (A7, m7, o0.take 20), (B7, k7, n0.take 20)] y7 := ((((((Its.nil B).cons K7).cons K6).cons K5).cons K1).cons K0).scons sb7 |>.scons sa7 |>.scons sb6 |>.scons sa6 |>.scons sb5 |>.scons sa5
  clear B K0 K1 K5 K6 K7 sa5 sb5 sa6 sb6 sa7 sb7 D1 D2 D3 be1 be2 be3
  have hne : Nonempty (In (Its w [(w.heap.size, csC g0 e0 l0 v0 A0 c0 p0 B0 d0 q0), (w.heap.size + 1, csC g1 e1 l1 v1 A1 c1 p1 B1 d1 q1), (b5, csC g0 e0 l0 v0 A5 m5 p5 B5 k5 q5), (b6, csC g0 e0 l0 v0 A6 m6 p6 B6 k6 q6), (b7, csC g0 e0 l0 v0 A7 m7 p7 B7 k7 q7)] [(A5, m5, o0.take 20), (B5, k5, n0.take 20), (A6, m6, o0.take 20), (B6, k6, n0.take 20), (A7, m7, o0.take 20), (B7, k7, n0.take 20)])) := ⟨⟨_, I⟩⟩
  have fa0 : ∀ j : In (Its w [(w.heap.size, csC g0 e0 l0 v0 A0 c0 p0 B0 d0 q0), (w.heap.size + 1, csC g1 e1 l1 v1 A1 c1 p1 B1 d1 q1), (b5, csC g0 e0 l0 v0 A5 m5 p5 B5 k5 q5), (b6, csC g0 e0 l0 v0 A6 m6 p6 B6 k6 q6), (b7, csC g0 e0 l0 v0 A7 m7 p7 B7 k7 q7)] [(A5, m5, o0.take 20), (B5, k5, n0.take 20), (A6, m6, o0.take 20), (B6, k6, n0.take 20), (A7, m7, o0.take 20), (B7, k7, n0.take 20)]), j.W.cell? ⟨w.heap.size, 0, none⟩ = some (.int .u64 g0) := fun j => (j.h.at_ 0 rfl).cell 0
  have fa1 : ∀ j : In (Its w [(w.heap.size, csC g0 e0 l0 v0 A0 c0 p0 B0 d0 q0), (w.heap.size + 1, csC g1 e1 l1 v1 A1 c1 p1 B1 d1 q1), (b5, csC g0 e0 l0 v0 A5 m5 p5 B5 k5 q5), (b6, csC g0 e0 l0 v0 A6 m6 p6 B6 k6 q6), (b7, csC g0 e0 l0 v0 A7 m7 p7 B7 k7 q7)] [(A5, m5, o0.take 20), (B5, k5, n0.take 20), (A6, m6, o0.take 20), (B6, k6, n0.take 20), (A7, m7, o0.take 20), (B7, k7, n0.take 20)]), j.W.cell? ⟨w.heap.size, 1, none⟩ = some (.int .u32 e0) := fun j => (j.h.at_ 0 rfl).cell 1
  have fa2 : ∀ j : In (Its w [(w.heap.size, csC g0 e0 l0 v0 A0 c0 p0 B0 d0 q0), (w.heap.size + 1, csC g1 e1 l1 v1 A1 c1 p1 B1 d1 q1), (b5, csC g0 e0 l0 v0 A5 m5 p5 B5 k5 q5), (b6, csC g0 e0 l0 v0 A6 m6 p6 B6 k6 q6), (b7, csC g0 e0 l0 v0 A7 m7 p7 B7 k7 q7)] [(A5, m5, o0.take 20), (B5, k5, n0.take 20), (A6, m6, o0.take 20), (B6, k6, n0.take 20), (A7, m7, o0.take 20), (B7, k7, n0.take 20)]), j.W.cell? ⟨w.heap.size, 2, none⟩ = some (.int .u64 l0) := fun j => (j.h.at_ 0 rfl).cell 2
  have fa3 : ∀ j : In (Its w [(w.heap.size, csC g0 e0 l0 v0 A0 c0 p0 B0 d0 q0), (w.heap.size + 1, csC g1 e1 l1 v1 A1 c1 p1 B1 d1 q1), (b5, csC g0 e0 l0 v0 A5 m5 p5 B5 k5 q5), (b6, csC g0 e0 l0 v0 A6 m6 p6 B6 k6 q6), (b7, csC g0 e0 l0 v0 A7 m7 p7 B7 k7 q7)] [(A5, m5, o0.take 20), (B5, k5, n0.take 20), (A6, m6, o0.take 20), (B6, k6, n0.take 20), (A7, m7, o0.take 20), (B7, k7, n0.take 20)]), j.W.cell? ⟨w.heap.size, 3, none⟩ = some (.int .u64 v0) := fun j => (j.h.at_ 0 rfl).cell 3
  have fa4 : ∀ j : In (Its w [(w.heap.size, csC g0 e0 l0 v0 A0 c0 p0 B0 d0 q0), (w.heap.size + 1, csC g1 e1 l1 v1 A1 c1 p1 B1 d1 q1), (b5, csC g0 e0 l0 v0 A5 m5 p5 B5 k5 q5), (b6, csC g0 e0 l0 v0 A6 m6 p6 B6 k6 q6), (b7, csC g0 e0 l0 v0 A7 m7 p7 B7 k7 q7)] [(A5, m5, o0.take 20), (B5, k5, n0.take 20), (A6, m6, o0.take 20), (B6, k6, n0.take 20), (A7, m7, o0.take 20), (B7, k7, n0.take 20)]), j.W.cell? ⟨w.heap.size, 4, none⟩ = some (.slice A0 c0 p0) := fun j => (j.h.at_ 0 rfl).cell 4
  have fa5 : ∀ j : In (Its w [(w.heap.size, csC g0 e0 l0 v0 A0 c0 p0 B0 d0 q0), (w.heap.size + 1, csC g1 e1 l1 v1 A1 c1 p1 B1 d1 q1), (b5, csC g0 e0 l0 v0 A5 m5 p5 B5 k5 q5), (b6, csC g0 e0 l0 v0 A6 m6 p6 B6 k6 q6), (b7, csC g0 e0 l0 v0 A7 m7 p7 B7 k7 q7)] [(A5, m5, o0.take 20), (B5, k5, n0.take 20), (A6, m6, o0.take 20), (B6, k6, n0.take 20), (A7, m7, o0.take 20), (B7, k7, n0.take 20)]), j.W.cell? ⟨w.heap.size, 5, none⟩ = some (.slice B0 d0 q0) := fun j => (j.h.at_ 0 rfl).cell 5
  have fb0 : ∀ j : In (Its w [(w.heap.size, csC g0 e0 l0 v0 A0 c0 p0 B0 d0 q0), (w.heap.size + 1, csC g1 e1 l1 v1 A1 c1 p1 B1 d1 q1), (b5, csC g0 e0 l0 v0 A5 m5 p5 B5 k5 q5), (b6, csC g0 e0 l0 v0 A6 m6 p6 B6 k6 q6), (b7, csC g0 e0 l0 v0 A7 m7 p7 B7 k7 q7)] [(A5, m5, o0.take 20), (B5, k5, n0.take 20), (A6, m6, o0.take 20), (B6, k6, n0.take 20), (A7, m7, o0.take 20), (B7, k7, n0.take 20)]), j.W.cell? ⟨w.heap.size + 1, 0, none⟩ = some (.int .u64 g1) := fun j => (j.h.at_ 1 rfl).cell 0
  have fb1 : ∀ j : In (Its w [(w.heap.size, csC g0 e0 l0 v0 A0 c0 p0 B0 d0 q0), (w.heap.size + 1, csC g1 e1 l1 v1 A1 c1 p1 B1 d1 q1), (b5, csC g0 e0 l0 v0 A5 m5 p5 B5 k5 q5), (b6, csC g0 e0 l0 v0 A6 m6 p6 B6 k6 q6), (b7, csC g0 e0 l0 v0 A7 m7 p7 B7 k7 q7)] [(A5, m5, o0.take 20), (B5, k5, n0.take 20), (A6, m6, o0.take 20), (B6, k6, n0.take 20), (A7, m7, o0.take 20), (B7, k7, n0.take 20)]), j.W.cell? ⟨w.heap.size + 1, 1, none⟩ = some (.int .u32 e1) := fun j => (j.h.at_ 1 rfl).cell 1
  have fb2 : ∀ j : In (Its w [(w.heap.size, csC g0 e0 l0 v0 A0 c0 p0 B0 d0 q0), (w.heap.size + 1, csC g1 e1 l1 v1 A1 c1 p1 B1 d1 q1), (b5, csC g0 e0 l0 v0 A5 m5 p5 B5 k5 q5), (b6, csC g0 e0 l0 v0 A6 m6 p6 B6 k6 q6), (b7, csC g0 e0 l0 v0 A7 m7 p7 B7 k7 q7)] [(A5, m5, o0.take 20), (B5, k5, n0.take 20), (A6, m6, o0.take 20), (B6, k6, n0.take 20), (A7, m7, o0.take 20), (B7, k7, n0.take 20)]), j.W.cell? ⟨w.heap.size + 1, 2, none⟩ = some (.int .u64 l1) := fun j => (j.h.at_ 1 rfl).cell 2
  have fb3 : ∀ j : In (Its w [(w.heap.size, csC g0 e0 l0 v0 A0 c0 p0 B0 d0 q0), (w.heap.size + 1, csC g1 e1 l1 v1 A1 c1 p1 B1 d1 q1), (b5, csC g0 e0 l0 v0 A5 m5 p5 B5 k5 q5), (b6, csC g0 e0 l0 v0 A6 m6 p6 B6 k6 q6), (b7, csC g0 e0 l0 v0 A7 m7 p7 B7 k7 q7)] [(A5, m5, o0.take 20), (B5, k5, n0.take 20), (A6, m6, o0.take 20), (B6, k6, n0.take 20), (A7, m7, o0.take 20), (B7, k7, n0.take 20)]), j.W.cell? ⟨w.heap.size + 1, 3, none⟩ = some (.int .u64 v1) := fun j => (j.h.at_ 1 rfl).cell 3
  have fb4 : ∀ j : In (Its w [(w.heap.size, csC g0 e0 l0 v0 A0 c0 p0 B0 d0 q0), (w.heap.size + 1, csC g1 e1 l1 v1 A1 c1 p1 B1 d1 q1), (b5, csC g0 e0 l0 v0 A5 m5 p5 B5 k5 q5), (b6, csC g0 e0 l0 v0 A6 m6 p6 B6 k6 q6), (b7, csC g0 e0 l0 v0 A7 m7 p7 B7 k7 q7)] [(A5, m5, o0.take 20), (B5, k5, n0.take 20), (A6, m6, o0.take 20), (B6, k6, n0.take 20), (A7, m7, o0.take 20), (B7, k7, n0.take 20)]), j.W.cell? ⟨w.heap.size + 1, 4, none⟩ = some (.slice A1 c1 p1) := fun j => (j.h.at_ 1 rfl).cell 4
  have fb5 : ∀ j : In (Its w [(w.heap.size, csC g0 e0 l0 v0 A0 c0 p0 B0 d0 q0), (w.heap.size + 1, csC g1 e1 l1 v1 A1 c1 p1 B1 d1 q1), (b5, csC g0 e0 l0 v0 A5 m5 p5 B5 k5 q5), (b6, csC g0 e0 l0 v0 A6 m6 p6 B6 k6 q6), (b7, csC g0 e0 l0 v0 A7 m7 p7 B7 k7 q7)] [(A5, m5, o0.take 20), (B5, k5, n0.take 20), (A6, m6, o0.take 20), (B6, k6, n0.take 20), (A7, m7, o0.take 20), (B7, k7, n0.take 20)]), j.W.cell? ⟨w.heap.size + 1, 5, none⟩ = some (.slice B1 d1 q1) := fun j => (j.h.at_ 1 rfl).cell 5
  have fx0 : ∀ j : In (Its w [(w.heap.size, csC g0 e0 l0 v0 A0 c0 p0 B0 d0 q0), (w.heap.size + 1, csC g1 e1 l1 v1 A1 c1 p1 B1 d1 q1), (b5, csC g0 e0 l0 v0 A5 m5 p5 B5 k5 q5), (b6, csC g0 e0 l0 v0 A6 m6 p6 B6 k6 q6), (b7, csC g0 e0 l0 v0 A7 m7 p7 B7 k7 q7)] [(A5, m5, o0.take 20), (B5, k5, n0.take 20), (A6, m6, o0.take 20), (B6, k6, n0.take 20), (A7, m7, o0.take 20), (B7, k7, n0.take 20)]), j.W.cell? ⟨b5, 0, none⟩ = some (.int .u64 g0) := fun j => (j.h.at_ 2 rfl).cell 0
  have fx1 : ∀ j : In (Its w [(w.heap.size, csC g0 e0 l0 v0 A0 c0 p0 B0 d0 q0), (w.heap.size + 1, csC g1 e1 l1 v1 A1 c1 p1 B1 d1 q1), (b5, csC g0 e0 l0 v0 A5 m5 p5 B5 k5 q5), (b6, csC g0 e0 l0 v0 A6 m6 p6 B6 k6 q6), (b7, csC g0 e0 l0 v0 A7 m7 p7 B7 k7 q7)] [(A5, m5, o0.take 20), (B5, k5, n0.take 20), (A6, m6, o0.take 20), (B6, k6, n0.take 20), (A7, m7, o0.take 20), (B7, k7, n0.take 20)]), j.W.cell? ⟨b5, 1, none⟩ = some (.int .u32 e0) := fun j => (j.h.at_ 2 rfl).cell 1
  have fx2 : ∀ j : In (Its w [(w.heap.size, csC g0 e0 l0 v0 A0 c0 p0 B0 d0 q0), (w.heap.size + 1, csC g1 e1 l1 v1 A1 c1 p1 B1 d1 q1), (b5, csC g0 e0 l0 v0 A5 m5 p5 B5 k5 q5), (b6, csC g0 e0 l0 v0 A6 m6 p6 B6 k6 q6), (b7, csC g0 e0 l0 v0 A7 m7 p7 B7 k7 q7)] [(A5, m5, o0.take 20), (B5, k5, n0.take 20), (A6, m6, o0.take 20), (B6, k6, n0.take 20), (A7, m7, o0.take 20), (B7, k7, n0.take 20)]), j.W.cell? ⟨b5, 2, none⟩ = some (.int .u64 l0) := fun j => (j.h.at_ 2 rfl).cell 2
  have fx3 : ∀ j : In (Its w [(w.heap.size, csC g0 e0 l0 v0 A0 c0 p0 B0 d0 q0), (w.heap.size + 1, csC g1 e1 l1 v1 A1 c1 p1 B1 d1 q1), (b5, csC g0 e0 l0 v0 A5 m5 p5 B5 k5 q5), (b6, csC g0 e0 l0 v0 A6 m6 p6 B6 k6 q6), (b7, csC g0 e0 l0 v0 A7 m7 p7 B7 k7 q7)] [(A5, m5, o0.take 20), (B5, k5, n0.take 20), (A6, m6, o0.take 20), (B6, k6, n0.take 20), (A7, m7, o0.take 20), (B7, k7, n0.take 20)]), j.W.cell? ⟨b5, 3, none⟩ = some (.int .u64 v0) := fun j => (j.h.at_ 2 rfl).cell 3
  have fx4 : ∀ j : In (Its w [(w.heap.size, csC g0 e0 l0 v0 A0 c0 p0 B0 d0 q0), (w.heap.size + 1, csC g1 e1 l1 v1 A1 c1 p1 B1 d1 q1), (b5, csC g0 e0 l0 v0 A5 m5 p5 B5 k5 q5), (b6, csC g0 e0 l0 v0 A6 m6 p6 B6 k6 q6), (b7, csC g0 e0 l0 v0 A7 m7 p7 B7 k7 q7)] [(A5, m5, o0.take 20), (B5, k5, n0.take 20), (A6, m6, o0.take 20), (B6, k6, n0.take 20), (A7, m7, o0.take 20), (B7, k7, n0.take 20)]), j.W.cell? ⟨b5, 4, none⟩ = some (.slice A5 m5 p5) := fun j => (j.h.at_ 2 rfl).cell 4
  have fx5 : ∀ j : In (Its w [(w.heap.size, csC g0 e0 l0 v0 A0 c0 p0 B0 d0 q0), (w.heap.size + 1, csC g1 e1 l1 v1 A1 c1 p1 B1 d1 q1), (b5, csC g0 e0 l0 v0 A5 m5 p5 B5 k5 q5), (b6, csC g0 e0 l0 v0 A6 m6 p6 B6 k6 q6), (b7, csC g0 e0 l0 v0 A7 m7 p7 B7 k7 q7)] [(A5, m5, o0.take 20), (B5, k5, n0.take 20), (A6, m6, o0.take 20), (B6, k6, n0.take 20), (A7, m7, o0.take 20), (B7, k7, n0.take 20)]), j.W.cell? ⟨b5, 5, none⟩ = some (.slice B5 k5 q5) := fun j => (j.h.at_ 2 rfl).cell 5
  have fy0 : ∀ j : In (Its w [(w.heap.size, csC g0 e0 l0 v0 A0 c0 p0 B0 d0 q0), (w.heap.size + 1, csC g1 e1 l1 v1 A1 c1 p1 B1 d1 q1), (b5, csC g0 e0 l0 v0 A5 m5 p5 B5 k5 q5), (b6, csC g0 e0 l0 v0 A6 m6 p6 B6 k6 q6), (b7, csC g0 e0 l0 v0 A7 m7 p7 B7 k7 q7)] [(A5, m5, o0.take 20), (B5, k5, n0.take 20), (A6, m6, o0.take 20), (B6, k6, n0.take 20), (A7, m7, o0.take 20), (B7, k7, n0.take 20)]), j.W.cell? ⟨b6, 0, none⟩ = some (.int .u64 g0) := fun j => (j.h.at_ 3 rfl).cell 0
  have fy1 : ∀ j : In (Its w [(w.heap.size, csC g0 e0 l0 v0 A0 c0 p0 B0 d0 q0), (w.heap.size + 1, csC g1 e1 l1 v1 A1 c1 p1 B1 d1 q1), (b5, csC g0 e0 l0 v0 A5 m5 p5 B5 k5 q5), (b6, csC g0 e0 l0 v0 A6 m6 p6 B6 k6 q6), (b7, csC g0 e0 l0 v0 A7 m7 p7 B7 k7 q7)] [(A5, m5, o0.take 20), (B5, k5, n0.take 20), (A6, m6, o0.take 20), (B6, k6, n0.take 20), (A7, m7, o0.take 20), (B7, k7, n0.take 20)]), j.W.cell? ⟨b6, 1, none⟩ = some (.int .u32 e0) := fun j => (j.h.at_ 3 rfl).cell 1
  have fy2 : ∀ j : In (Its w [(w.heap.size, csC g0 e0 l0 v0 A0 c0 p0 B0 d0 q0), (w.heap.size + 1, csC g1 e1 l1 v1 A1 c1 p1 B1 d1 q1), (b5, csC g0 e0 l0 v0 A5 m5 p5 B5 k5 q5), (b6, csC g0 e0 l0 v0 A6 m6 p6 B6 k6 q6), (b7, csC g0 e0 l0 v0 A7 m7 p7 B7 k7 q7)] [(A5, m5, o0.take 20), (B5, k5, n0.take 20), (A6, m6, o0.take 20), (B6, k6, n0.take 20), (A7, m7, o0.take 20), (B7, k7, n0.take 20)]), j.W.cell? ⟨b6, 2, none⟩ = some (.int .u64 l0) := fun j => (j.h.at_ 3 rfl).cell 2
  have fy3 : ∀ j : In (Its w [(w.heap.size, csC g0 e0 l0 v0 A0 c0 p0 B0 d0 q0), (w.heap.size + 1, csC g1 e1 l1 v1 A1 c1 p1 B1 d1 q1), (b5, csC g0 e0 l0 v0 A5 m5 p5 B5 k5 q5), (b6, csC g0 e0 l0 v0 A6 m6 p6 B6 k6 q6), (b7, csC g0 e0 l0 v0 A7 m7 p7 B7 k7 q7)] [(A5, m5, o0.take 20), (B5, k5, n0.take 20), (A6, m6, o0.take 20), (B6, k6, n0.take 20), (A7, m7, o0.take 20), (B7, k7, n0.take 20)]), j.W.cell? ⟨b6, 3, none⟩ = some (.int .u64 v0) := fun j => (j.h.at_ 3 rfl).cell 3
  have fy4 : ∀ j : In (Its w [(w.heap.size, csC g0 e0 l0 v0 A0 c0 p0 B0 d0 q0), (w.heap.size + 1, csC g1 e1 l1 v1 A1 c1 p1 B1 d1 q1), (b5, csC g0 e0 l0 v0 A5 m5 p5 B5 k5 q5), (b6, csC g0 e0 l0 v0 A6 m6 p6 B6 k6 q6), (b7, csC g0 e0 l0 v0 A7 m7 p7 B7 k7 q7)] [(A5, m5, o0.take 20), (B5, k5, n0.take 20), (A6, m6, o0.take 20), (B6, k6, n0.take 20), (A7, m7, o0.take 20), (B7, k7, n0.take 20)]), j.W.cell? ⟨b6, 4, none⟩ = some (.slice A6 m6 p6) := fun j => (j.h.at_ 3 rfl).cell 4
  have fy5 : ∀ j : In (Its w [(w.heap.size, csC g0 e0 l0 v0 A0 c0 p0 B0 d0 q0), (w.heap.size + 1, csC g1 e1 l1 v1 A1 c1 p1 B1 d1 q1), (b5, csC g0 e0 l0 v0 A5 m5 p5 B5 k5 q5), (b6, csC g0 e0 l0 v0 A6 m6 p6 B6 k6 q6), (b7, csC g0 e0 l0 v0 A7 m7 p7 B7 k7 q7)] [(A5, m5, o0.take 20), (B5, k5, n0.take 20), (A6, m6, o0.take 20), (B6, k6, n0.take 20), (A7, m7, o0.take 20), (B7, k7, n0.take 20)]), j.W.cell? ⟨b6, 5, none⟩ = some (.slice B6 k6 q6) := fun j => (j.h.at_ 3 rfl).cell 5
  have fz0 : ∀ j : In (Its w [(w.heap.size, csC g0 e0 l0 v0 A0 c0 p0 B0 d0 q0), (w.heap.size + 1, csC g1 e1 l1 v1 A1 c1 p1 B1 d1 q1), (b5, csC g0 e0 l0 v0 A5 m5 p5 B5 k5 q5), (b6, csC g0 e0 l0 v0 A6 m6 p6 B6 k6 q6), (b7, csC g0 e0 l0 v0 A7 m7 p7 B7 k7 q7)] [(A5, m5, o0.take 20), (B5, k5, n0.take 20), (A6, m6, o0.take 20), (B6, k6, n0.take 20), (A7, m7, o0.take 20), (B7, k7, n0.take 20)]), j.W.cell? ⟨b7, 0, none⟩ = some (.int .u64 g0) := fun j => (j.h.at_ 4 rfl).cell 0
  have fz1 : ∀ j : In (Its w [(w.heap.size, csC g0 e0 l0 v0 A0 c0 p0 B0 d0 q0), (w.heap.size + 1, csC g1 e1 l1 v1 A1 c1 p1 B1 d1 q1), (b5, csC g0 e0 l0 v0 A5 m5 p5 B5 k5 q5), (b6, csC g0 e0 l0 v0 A6 m6 p6 B6 k6 q6), (b7, csC g0 e0 l0 v0 A7 m7 p7 B7 k7 q7)] [(A5, m5, o0.take 20), (B5, k5, n0.take 20), (A6, m6, o0.take 20), (B6, k6, n0.take 20), (A7, m7, o0.take 20), (B7, k7, n0.take 20)]), j.W.cell? ⟨b7, 1, none⟩ = some (.int .u32 e0) := fun j => (j.h.at_ 4 rfl).cell 1
  have fz2 : ∀ j : In (Its w [(w.heap.size, csC g0 e0 l0 v0 A0 c0 p0 B0 d0 q0), (w.heap.size + 1, csC g1 e1 l1 v1 A1 c1 p1 B1 d1 q1), (b5, csC g0 e0 l0 v0 A5 m5 p5 B5 k5 q5), (b6, csC g0 e0 l0 v0 A6 m6 p6 B6 k6 q6), (b7, csC g0 e0 l0 v0 A7 m7 p7 B7 k7 q7)] [(A5, m5, o0.take 20), (B5, k5, n0.take 20), (A6, m6, o0.take 20), (B6, k6, n0.take 20), (A7, m7, o0.take 20), (B7, k7, n0.take 20)]), j.W.cell? ⟨b7, 2, none⟩ = some (.int .u64 l0) := fun j => (j.h.at_ 4 rfl).cell 2
  have fz3 : ∀ j : In (Its w [(w.heap.size, csC g0 e0 l0 v0 A0 c0 p0 B0 d0 q0), (w.heap.size + 1, csC g1 e1 l1 v1 A1 c1 p1 B1 d1 q1), (b5, csC g0 e0 l0 v0 A5 m5 p5 B5 k5 q5), (b6, csC g0 e0 l0 v0 A6 m6 p6 B6 k6 q6), (b7, csC g0 e0 l0 v0 A7 m7 p7 B7 k7 q7)] [(A5, m5, o0.take 20), (B5, k5, n0.take 20), (A6, m6, o0.take 20), (B6, k6, n0.take 20), (A7, m7, o0.take 20), (B7, k7, n0.take 20)]), j.W.cell? ⟨b7, 3, none⟩ = some (.int .u64 v0) := fun j => (j.h.at_ 4 rfl).cell 3
  have fz4 : ∀ j : In (Its w [(w.heap.size, csC g0 e0 l0 v0 A0 c0 p0 B0 d0 q0), (w.heap.size + 1, csC g1 e1 l1 v1 A1 c1 p1 B1 d1 q1), (b5, csC g0 e0 l0 v0 A5 m5 p5 B5 k5 q5), (b6, csC g0 e0 l0 v0 A6 m6 p6 B6 k6 q6), (b7, csC g0 e0 l0 v0 A7 m7 p7 B7 k7 q7)] [(A5, m5, o0.take 20), (B5, k5, n0.take 20), (A6, m6, o0.take 20), (B6, k6, n0.take 20), (A7, m7, o0.take 20), (B7, k7, n0.take 20)]), j.W.cell? ⟨b7, 4, none⟩ = some (.slice A7 m7 p7) := fun j => (j.h.at_ 4 rfl).cell 4
  have fz5 : ∀ j : In (Its w [(w.heap.size, csC g0 e0 l0 v0 A0 c0 p0 B0 d0 q0), (w.heap.size + 1, csC g1 e1 l1 v1 A1 c1 p1 B1 d1 q1), (b5, csC g0 e0 l0 v0 A5 m5 p5 B5 k5 q5), (b6, csC g0 e0 l0 v0 A6 m6 p6 B6 k6 q6), (b7, csC g0 e0 l0 v0 A7 m7 p7 B7 k7 q7)] [(A5, m5, o0.take 20), (B5, k5, n0.take 20), (A6, m6, o0.take 20), (B6, k6, n0.take 20), (A7, m7, o0.take 20), (B7, k7, n0.take 20)]), j.W.cell? ⟨b7, 5, none⟩ = some (.slice B7 k7 q7) := fun j => (j.h.at_ 4 rfl).cell 5
  have II := Lib.hid I
  clear I
  have SQ0 := Lib.hid (fun W (hi : Its w [(w.heap.size, csC g0 e0 l0 v0 A0 c0 p0 B0 d0 q0), (w.heap.size + 1, csC g1 e1 l1 v1 A1 c1 p1 B1 d1 q1), (b5, csC g0 e0 l0 v0 A5 m5 p5 B5 k5 q5), (b6, csC g0 e0 l0 v0 A6 m6 p6 B6 k6 q6), (b7, csC g0 e0 l0 v0 A7 m7 p7 B7 k7 q7)] [(A5, m5, o0.take 20), (B5, k5, n0.take 20), (A6, m6, o0.take 20), (B6, k6, n0.take 20), (A7, m7, o0.take 20), (B7, k7, n0.take 20)] W) => same_is g0 e0 l0 v0 A7 m7 p7 B7 k7 q7 g0 e0 l0 v0 A0 c0 p0 B0 d0 q0 (o0.take 20) (n0.take 20) (o0.take 20) (n0.take 20) true W (hi.sl 4 rfl) (hi.sl 5 rfl) (SA0.out.later hi.b) (SB0.out.later hi.b) m7l k7l (decide_eq_true rfl))
  refine region_class (Its w [(w.heap.size, csC g0 e0 l0 v0 A0 c0 p0 B0 d0 q0), (w.heap.size + 1, csC g1 e1 l1 v1 A1 c1 p1 B1 d1 q1), (b5, csC g0 e0 l0 v0 A5 m5 p5 B5 k5 q5), (b6, csC g0 e0 l0 v0 A6 m6 p6 B6 k6 q6), (b7, csC g0 e0 l0 v0 A7 m7 p7 B7 k7 q7)] [(A5, m5, o0.take 20), (B5, k5, n0.take 20), (A6, m6, o0.take 20), (B6, k6, n0.take 20), (A7, m7, o0.take 20), (B7, k7, n0.take 20)]) (by kernel_rfl) (by kernel_rfl) II.out.drawn ?_
  repeat (go_big_quiet_step (first
    | (go_at_call 12; with_reducible exact class_call _ (fun hi => its_ge hi (ref_any g0 e0 l0 v0 A7 m7 p7 B7 k7 q7 _)))
    | (go_at_call 12; with_reducible exact class_call _ (fun hi => its_ge hi (ref_any g0 e0 l0 v0 A0 c0 p0 B0 d0 q0 _)))
    | (go_at_call 19; with_reducible exact class_call _ (fun hi => its_ge hi (SQ0.out _ hi)))))
  refine wpQuiet_nil ?_
  rintro _ ⟨j1, rfl⟩
  have ga := fa0 j1
  have gb := fb0 j1
  go_wp2_with fail
  refine region_class (Its w [(w.heap.size, csC g0 e0 l0 v0 A0 c0 p0 B0 d0 q0), (w.heap.size + 1, csC g1 e1 l1 v1 A1 c1 p1 B1 d1 q1), (b5, csC g0 e0 l0 v0 A5 m5 p5 B5 k5 q5), (b6, csC g0 e0 l0 v0 A6 m6 p6 B6 k6 q6), (b7, csC g0 e0 l0 v0 A7 m7 p7 B7 k7 q7)] [(A5, m5, o0.take 20), (B5, k5, n0.take 20), (A6, m6, o0.take 20), (B6, k6, n0.take 20), (A7, m7, o0.take 20), (B7, k7, n0.take 20)]) (by kernel_rfl) (by kernel_rfl) j1.h.drawn ?_
  have SQ3 := Lib.hid (fun W (hi : Its w [(w.heap.size, csC g0 e0 l0 v0 A0 c0 p0 B0 d0 q0), (w.heap.size + 1, csC g1 e1 l1 v1 A1 c1 p1 B1 d1 q1), (b5, csC g0 e0 l0 v0 A5 m5 p5 B5 k5 q5), (b6, csC g0 e0 l0 v0 A6 m6 p6 B6 k6 q6), (b7, csC g0 e0 l0 v0 A7 m7 p7 B7 k7 q7)] [(A5, m5, o0.take 20), (B5, k5, n0.take 20), (A6, m6, o0.take 20), (B6, k6, n0.take 20), (A7, m7, o0.take 20), (B7, k7, n0.take 20)] W) => same_is g0 e0 l0 v0 A5 m5 p5 B5 k5 q5 g0 e0 l0 v0 A6 m6 p6 B6 k6 q6 (o0.take 20) (n0.take 20) (o0.take 20) (n0.take 20) true W (hi.sl 0 rfl) (hi.sl 1 rfl) (hi.sl 2 rfl) (hi.sl 3 rfl) m5l k5l (decide_eq_true rfl))
  repeat (go_big_quiet_step (first
    | (go_at_call 12; with_reducible exact class_call _ (fun hi => its_ge hi (ref_any g0 e0 l0 v0 A5 m5 p5 B5 k5 q5 _)))
    | (go_at_call 12; with_reducible exact class_call _ (fun hi => its_ge hi (ref_any g0 e0 l0 v0 A6 m6 p6 B6 k6 q6 _)))
    | (go_at_call 19; with_reducible exact class_call _ (fun hi => its_ge hi (SQ3.out _ hi)))
    | (go_at_call 20; with_reducible exact class_call _ (fun hi => its_ge hi (fixed_any _)))))
  refine wpQuiet_nil ?_
  rintro _ ⟨j, rfl⟩
  go_wp2_with fail
  go_ret
  exact ⟨rfl, j.h.b⟩


theorem walk (g0 e0 l0 v0 : Int) (A0 : Option Addr) (m0 p0 : Nat) (B0 : Option Addr) (k0 q0 : Nat) (o0 n0 : List Int) (g1 e1 l1 v1 : Int) (A1 : Option Addr) (m1 p1 : Nat) (B1 : Option Addr) (k1 q1 : Nat) (o1 n1 : List Int) (w : World) (hg0 : 0 ≤ g0 ∧ g0 < 18446744073709551616) (he0 : 0 ≤ e0 ∧ e0 < 4294967296) (hl0 : 0 ≤ l0 ∧ l0 < 18446744073709551616) (hv0 : 0 ≤ v0 ∧ v0 < 18446744073709551616) (sa0 : Sl w A0 m0 o0) (sb0 : Sl w B0 k0 n0) (hm0 : m0 ≤ maxLen ∧ k0 ≤ maxLen) (hp0 : m0 ≤ p0 ∧ k0 ≤ q0) (hg1 : 0 ≤ g1 ∧ g1 < 18446744073709551616) (he1 : 0 ≤ e1 ∧ e1 < 4294967296) (hl1 : 0 ≤ l1 ∧ l1 < 18446744073709551616) (hv1 : 0 ≤ v1 ∧ v1 < 18446744073709551616) (sa1 : Sl w A1 m1 o1) (sb1 : Sl w B1 k1 n1) (hm1 : m1 ≤ maxLen ∧ k1 ≤ maxLen) (hp1 : m1 ≤ p1 ∧ k1 ≤ q1) :
    Calls Try.prog 6 #[.agg #[.int .u64 g0, .int .u32 e0, .int .u64 l0, .int .u64 v0, .slice A0 m0 p0, .slice B0 k0 q0], .agg #[.int .u64 g1, .int .u32 e1, .int .u64 l1, .int .u64 v1, .slice A1 m1 p1, .slice B1 k1 q1]] w fun e' w' => e' = .returned (.bool true) ∧ Below w.heap.size w w' := by
  have f0 : Fits (⟨g0, e0, l0, v0, o0.take 20, n0.take 20⟩ : Chk) := fitsA hg0 he0 hl0 hv0
  have f1 : Fits (⟨g1, e1, l1, v1, o1.take 20, n1.take 20⟩ : Chk) := fitsA hg1 he1 hl1 hv1
  cases h0 : okC (⟨g0, e0, l0, v0, o0.take 20, n0.take 20⟩ : Chk)
  · cases h1 : okC (⟨g1, e1, l1, v1, o1.take 20, n1.take 20⟩ : Chk)
    · exact no0 g0 e0 l0 v0 A0 m0 p0 B0 k0 q0 o0 n0 g1 e1 l1 v1 A1 m1 p1 B1 k1 q1 o1 n1 _ _ w hg0 he0 hl0 hv0 sa0 sb0 hm0 hp0 hg1 he1 hl1 hv1 sa1 sb1 hm1 hp1 (enc_no sa0.cut sb0.cut (cut20_le _) hg0.1 hl0.1 h0) _ (enc_no sa1.cut sb1.cut (cut20_le _) hg1.1 hl1.1 h1)
    · exact no0 g0 e0 l0 v0 A0 m0 p0 B0 k0 q0 o0 n0 g1 e1 l1 v1 A1 m1 p1 B1 k1 q1 o1 n1 _ ⟨(secL (⟨g1, e1, l1, v1, o1.take 20, n1.take 20⟩ : Chk)).toArray⟩ w hg0 he0 hl0 hv0 sa0 sb0 hm0 hp0 hg1 he1 hl1 hv1 sa1 sb1 hm1 hp1 (enc_no sa0.cut sb0.cut (cut20_le _) hg0.1 hl0.1 h0) _ (enc_yes sa1.cut sb1.cut f1 h1 (by simp))
  cases h1 : okC (⟨g1, e1, l1, v1, o1.take 20, n1.take 20⟩ : Chk)
  · exact no1 g0 e0 l0 v0 A0 m0 p0 B0 k0 q0 o0 n0 g1 e1 l1 v1 A1 m1 p1 B1 k1 q1 o1 n1 ⟨(secL (⟨g0, e0, l0, v0, o0.take 20, n0.take 20⟩ : Chk)).toArray⟩ _ w hg0 he0 hl0 hv0 sa0 sb0 hm0 hp0 hg1 he1 hl1 hv1 sa1 sb1 hm1 hp1 (enc_yes sa0.cut sb0.cut f0 h0 (by simp)) (enc_no sa1.cut sb1.cut (cut20_le _) hg1.1 hl1.1 h1)
  obtain ⟨S0, HS0⟩ : ∃ S : ByteArray, secL (⟨g0, e0, l0, v0, o0.take 20, n0.take 20⟩ : Chk) = S.data.toList := ⟨⟨(secL (⟨g0, e0, l0, v0, o0.take 20, n0.take 20⟩ : Chk)).toArray⟩, by simp⟩
  obtain ⟨S1, HS1⟩ : ∃ S : ByteArray, secL (⟨g1, e1, l1, v1, o1.take 20, n1.take 20⟩ : Chk) = S.data.toList := ⟨⟨(secL (⟨g1, e1, l1, v1, o1.take 20, n1.take 20⟩ : Chk)).toArray⟩, by simp⟩
  have z0 : S0.size ≤ maxLen := by rw [Go.Lib.size_eq, ← HS0, secL_len h0]; decide
  have z1 : S1.size ≤ maxLen := by rw [Go.Lib.size_eq, ← HS1, secL_len h1]; decide
  have d0 := (dec_sec f0 h0 HS0).1
  have d1 := (dec_sec f1 h1 HS1).1
  have i0 : isSec S0.data.toList = true := by rw [← HS0]; exact isSec_secL f0 h0
  have i1 : isSec S1.data.toList = true := by rw [← HS1]; exact isSec_secL f1 h1
  have gp := ((okC_iff _).1 h0).1.1
  dsimp only at gp
  have C1 := Lib.hid (fun w => best_any S0 S1 w z0 z1)
  have C2 := Lib.hid (fun w => best_any S1 S0 w z1 z0)
  have C3 := Lib.hid (fun w => best_any S0 ⟨#[]⟩ w z0 (by decide))
  have E0 : Hid (EncAt w g0 e0 l0 v0 A0 (cut20 m0) p0 B0 (cut20 k0) q0 S0 0) := enc_yes sa0.cut sb0.cut f0 h0 HS0
  have E1 : Hid (EncAt w g1 e1 l1 v1 A1 (cut20 m1) p1 B1 (cut20 k1) q1 S1 0) := enc_yes sa1.cut sb1.cut f1 h1 HS1
  have e3 : Hid (bestC S0.data.toList (⟨#[]⟩ : ByteArray).data.toList = (⟨g0, e0, l0, v0, o0.take 20, n0.take 20⟩ : Chk) ∧ bestI S0.data.toList (⟨#[]⟩ : ByteArray).data.toList = 0 ∧ bestE S0.data.toList (⟨#[]⟩ : ByteArray).data.toList = 0) := by
    refine Lib.hid ?_
    unfold bestC bestI
    rw [d0, dec_nil.1, bestE_yes (by rw [i0]; simp), if_neg (by show ¬ (0 : Int) > g0; omega), if_neg (by show ¬ (0 : Int) > g0; omega)]
    exact ⟨rfl, rfl, rfl⟩
  have b1 : bestE S0.data.toList S1.data.toList = 0 := bestE_yes (by rw [i0]; simp)
  have b2 : bestE S1.data.toList S0.data.toList = 0 := bestE_yes (by rw [i0]; simp)
  by_cases hq : g0 = g1
  · refine eq g0 e0 l0 v0 A0 m0 p0 B0 k0 q0 o0 n0 g1 e1 l1 v1 A1 m1 p1 B1 k1 q1 o1 n1 S0 S1 w hg0 he0 hl0 hv0 sa0 sb0 hm0 hp0 hg1 he1 hl1 hv1 sa1 sb1 hm1 hp1 E0 E1 C1 C2 C3 (Lib.hid ?_) (Lib.hid ?_) e3 (by simp [hq])
    · unfold bestC bestI
      rw [d0, d1, if_neg (by show ¬ g1 > g0; omega), if_neg (by show ¬ g1 > g0; omega)]
      exact ⟨rfl, rfl, b1⟩
    · unfold bestC bestI
      rw [d0, d1, if_neg (by show ¬ g0 > g1; omega), if_neg (by show ¬ g0 > g1; omega)]
      exact ⟨rfl, rfl, b2⟩
  by_cases hl : g0 < g1
  · refine lt g0 e0 l0 v0 A0 m0 p0 B0 k0 q0 o0 n0 g1 e1 l1 v1 A1 m1 p1 B1 k1 q1 o1 n1 S0 S1 w hg0 he0 hl0 hv0 sa0 sb0 hm0 hp0 hg1 he1 hl1 hv1 sa1 sb1 hm1 hp1 E0 E1 C1 C2 C3 (Lib.hid ?_) (Lib.hid ?_) e3 (by simp [hq]) (by omega)
    · unfold bestC bestI
      rw [d0, d1, if_pos (by show g1 > g0; omega), if_pos (by show g1 > g0; omega)]
      exact ⟨rfl, rfl, b1⟩
    · unfold bestC bestI
      rw [d0, d1, if_neg (by show ¬ g0 > g1; omega), if_neg (by show ¬ g0 > g1; omega)]
      exact ⟨rfl, rfl, b2⟩
  · refine gt g0 e0 l0 v0 A0 m0 p0 B0 k0 q0 o0 n0 g1 e1 l1 v1 A1 m1 p1 B1 k1 q1 o1 n1 S0 S1 w hg0 he0 hl0 hv0 sa0 sb0 hm0 hp0 hg1 he1 hl1 hv1 sa1 sb1 hm1 hp1 E0 E1 C1 C2 C3 (Lib.hid ?_) (Lib.hid ?_) e3 (by simp [hq]) (by omega)
    · unfold bestC bestI
      rw [d0, d1, if_neg (by show ¬ g1 > g0; omega), if_neg (by show ¬ g1 > g0; omega)]
      exact ⟨rfl, rfl, b1⟩
    · unfold bestC bestI
      rw [d0, d1, if_pos (by show g0 > g1; omega), if_pos (by show g0 > g1; omega)]
      exact ⟨rfl, rfl, b2⟩

set_option maxRecDepth 100000 in
theorem lifted (os : Os) (started : os.Started) (H : Type) (enc : TypeId × Value → H) :
    ReturnsInHanded {} Try.checked os 6 .any (Rows.ckptBestSpec.pre6 enc Try.prog Try.f6 Rows.ckptBestRow.domain false) (Rows.ckptBestSpec.post enc Try.prog Try.f6 false true false false) := by
  refine returnsInHanded_of_change (C := Try.checked) own started (by kernel_rfl) Try.func6
    (ChangeSpec.witness6 (enc := enc) (C := Try.checked) false ⟨#[], #[.agg #[.int .u64 0, .int .u32 0, .int .u64 0, .int .u64 0, .slice none 0 0, .slice none 0 0], .agg #[.int .u64 0, .int .u32 0, .int .u64 0, .int .u64 0, .slice none 0 0, .slice none 0 0]], []⟩ 8 (by kernel_rfl) (by kernel_rfl) (by kernel_rfl) (by kernel_rfl)) ?_
  intro W base args ds gs before hval0 hW hcnd _
  have hval : ∀ (j : Nat) t v, Try.f6.params[j]? = some t → args[j]? = some v → Value.okWide Try.prog W .any base t v := hval0
  have hW' := hW
  obtain ⟨p, q, hA0, hV, rfl, hfz, hnd⟩ := hW
  have hA : DataW.TrodAll enc Try.prog W 0 (fun _ => true) true Try.f6.params.toList args.toList ds p := hA0
  rw [Try.params6] at hA hval
  obtain ⟨v0, vs0, d0, ds0, p0, q0, hargs, rfl, rfl, h0, r0⟩ := trodAll_cons hA
  obtain ⟨v1, vs1, d1, ds1, p1, q1, rfl, rfl, rfl, h1, r1⟩ := trodAll_cons r0
  obtain ⟨rfl, rfl, rfl⟩ := trodAll_nil r1
  obtain rfl : args = #[v0, v1] := by cases args; simp_all
  obtain ⟨rfl, rfl⟩ := trodVars_none hV
  obtain ⟨g0, e0, l0, v0, A0, m0, p0, B0, k0, q0, o0, n0, rfl, hg0, he0, hl0, hv0, sa0, sb0, hm0, hp0⟩ := open_chk (hval 0 26 v0 rfl rfl) h0
  obtain ⟨g1, e1, l1, v1, A1, m1, p1, B1, k1, q1, o1, n1, rfl, hg1, he1, hl1, hv1, sa1, sb1, hm1, hp1⟩ := open_chk (hval 1 26 v1 rfl rfl) h1
  clear hA0 hval0
  try simp only [List.append_nil] at hW'
  try simp only [List.nil_append] at hW'
  have hlt := fun x hx => hW'.lt x hx
  refine (walk g0 e0 l0 v0 A0 m0 p0 B0 k0 q0 o0 n0 g1 e1 l1 v1 A1 m1 p1 B1 k1 q1 o1 n1 W hg0 he0 hl0 hv0 sa0 sb0 hm0 hp0 hg1 he1 hl1 hv1 sa1 sb1 hm1 hp1).mono fun e W' ⟨he, hg⟩ => ?_
  subst he
  refine ⟨_, rfl, post_mem hW' (fun _ _ _ => (trodAll_cons_mk (shut_bool Try.underlying4 _) trodAll_mk0)) (fun sp hsp => ?_) (fun _ => rfl) hg (ok_one (by kernel_rfl) rfl (okWide_bool_mk Try.underlying4 _))⟩
  have hall := (trodAll_cons_mk (arg_same (sp := sp) laid (by kernel_rfl) (of_decide_eq_true (by kernel_rfl)) h0 hg (by intro x hx; simp_all) hlt hsp) (trodAll_cons_mk (arg_same (sp := sp) laid (by kernel_rfl) (of_decide_eq_true (by kernel_rfl)) h1 hg (by intro x hx; simp_all) hlt hsp) trodAll_mk0))
  try simp only [List.append_nil] at hall
  try simp only [List.nil_append] at hall
  exact hall

theorem over : Rows.ckptBestRow.holds Try.pinned (OpenSpec.ofChange Rows.ckptBestSpec) :=
  OpenClaim.holds_of_wide 6 Try.f6 rfl rfl rfl rfl rfl rfl rfl ⟨rfl, rfl, rfl, rfl, rfl⟩ rfl rfl rfl rfl rfl (by kernel_rfl) Try.func6 (by kernel_rfl)
    (of_decide_eq_true (by kernel_rfl)) (by unfold Func.isWrapper; first | (rw [if_pos (by decide +kernel)]; kernel_rfl) | (rw [if_neg (by decide +kernel)]; exact ⟨rfl, rfl⟩))
    (fun os started H enc _ => lifted os started H enc)

theorem proved : Rows.CkptBestSaid := over
#print axioms proved
end Go.Proofs.Ytdnkhjikfdalbaa.ckptBest
