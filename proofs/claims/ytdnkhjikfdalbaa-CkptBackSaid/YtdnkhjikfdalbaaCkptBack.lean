/- For every checkpoint and every text the statement CkptBack about ckpt.Encode and Decode returns true, and changes nothing. Conditions: none. -/
import Derived.Test.YtdnkhjikfdalbaaCpP
import Derived.Test.YtdnkhjikfdalbaaCpO
import Derived.Deep.DeepCutAuto
import Derived.Deep.LoopGhost
import Derived.StillTailTactics
import Derived.WalkSmall
import Derived.ProofKit
import Derived.OpenShut
import Derived.ShutString
import Derived.SizedLaws
namespace Go.Proofs.Ytdnkhjikfdalbaa.ckptBack
open Go.ChangeShapes Go.WideShapes Go.ChangeAt Go.RowKit Go.Lib Wd Cr
open Go.ChangeMaps (open_string shut_string)
set_option linter.unusedVariables false

theorem own : ownKnob Try.prog.godebug = none := by kernel_rfl
theorem laid : laidOutB Try.prog = true := by kernel_rfl

set_option maxRecDepth 100000 in
set_option maxHeartbeats 16000000 in
theorem nn (g0 e0 l0 v0 : Int) (A0 : Option Addr) (m0 p0 : Nat) (B0 : Option Addr) (k0 q0 : Nat) (o0 n0 : List Int) (s : ByteArray) (w : World) (hg0 : 0 ≤ g0 ∧ g0 < 18446744073709551616) (he0 : 0 ≤ e0 ∧ e0 < 4294967296) (hl0 : 0 ≤ l0 ∧ l0 < 18446744073709551616) (hv0 : 0 ≤ v0 ∧ v0 < 18446744073709551616) (sa0 : Sl w A0 m0 o0) (sb0 : Sl w B0 k0 n0) (hm0 : m0 ≤ maxLen ∧ k0 ≤ maxLen) (hp0 : m0 ≤ p0 ∧ k0 ≤ q0) (T : ByteArray) (ET : Hid (s.extract 0 (min (s.size : Int) 130).toNat = T)) (hsz : s.size ≤ 9223372036854775807) (DT : Hid (∀ w, Calls Try.prog 13 #[.string T] w (DecP T w))) (E0 : Hid (EncAt w g0 e0 l0 v0 A0 (cut20 m0) p0 B0 (cut20 k0) q0 ⟨#[]⟩ 5)) (R0 : Hid (∀ W, Below w.heap.size w W → Calls Try.prog 17 #[.agg #[.int .u64 g0, .int .u32 e0, .int .u64 l0, .int .u64 v0, .slice A0 (cut20 m0) p0, .slice B0 (cut20 k0) q0]] W fun e' w' => e' = .returned (.bool false) ∧ Below W.heap.size W w')) (dT : Hid (decC T.data.toList = (⟨0, 0, 0, 0, [], []⟩ : Chk) ∧ decE T.data.toList = 5)) :
    Calls Try.prog 4 #[.agg #[.int .u64 g0, .int .u32 e0, .int .u64 l0, .int .u64 v0, .slice A0 m0 p0, .slice B0 k0 q0], .string s] w fun e' w' => e' = .returned (.bool true) ∧ Below w.heap.size w w' := by
  have SA0 := Lib.hid sa0.cut
  have SB0 := Lib.hid sb0.cut
  clear sa0 sb0
  have B := below1 w (.cells #[.int .u64 g0, .int .u32 e0, .int .u64 l0, .int .u64 v0, .slice A0 m0 p0, .slice B0 k0 q0] 26)
  have K0 : Blk (w.alloc (.cells #[.int .u64 g0, .int .u32 e0, .int .u64 l0, .int .u64 v0, .slice A0 m0 p0, .slice B0 k0 q0] 26)) (w.heap.size) 26 (csC g0 e0 l0 v0 A0 m0 p0 B0 k0 q0) := blk_new w 26 (csC g0 e0 l0 v0 A0 m0 p0 B0 k0 q0) (w.heap.size) (by simp)
  have C0 := Lib.hid (fun w => lawcut_any g0 e0 l0 v0 A0 m0 p0 B0 k0 q0 w hm0.1 hm0.2 hp0.1 hp0.2)
  obtain ⟨wa, EW⟩ : ∃ wa, Hid ((w.alloc (.cells #[.int .u64 g0, .int .u32 e0, .int .u64 l0, .int .u64 v0, .slice A0 m0 p0, .slice B0 k0 q0] 26)) = wa) := ⟨_, rfl⟩
  rw [EW.out] at B K0
  go_enter Try.func4, Try.ntmps4
  go_upto_region 1 with fail
  rw [EW.out]
  clear EW
  generalize cut20 m0 = c0 at *
  generalize cut20 k0 = d0 at *
  have HK := Lib.hid K0
  go_wp2_with (with_reducible refine load_c rfl (.tmp 2) rfl (w.heap.size) rfl HK.out ?_)
  refine (C0.out _).mono ?_
  rintro e' u0 ⟨rfl, hb⟩
  replace K0 := K0.later hb
  replace B := Wd.Ge.trans B hb
  clear hb
  clear HK
  have HK := Lib.hid K0
  go_upto_region 2 with (with_reducible refine store_c rfl (.tmp 2) (.tmp 14) rfl (w.heap.size) rfl rfl HK.out ?_)
  replace K0 := K0.row (csC g0 e0 l0 v0 A0 c0 p0 B0 d0 q0)
  replace B := below_set B (show w.heap.size ≤ w.heap.size by omega) (csC g0 e0 l0 v0 A0 c0 p0 B0 d0 q0)
  generalize u0.setRow (w.heap.size) (csC g0 e0 l0 v0 A0 c0 p0 B0 d0 q0) = z0 at *
  clear HK C0
  go_upto_region 3 with fail
  rw [ET.out]
  have HK := Lib.hid K0
  go_wp2_with (with_reducible refine load_c rfl (.tmp 2) rfl (w.heap.size) rfl HK.out ?_)
  refine (E0.out _ B).mono ?_
  rintro e' w1 ⟨rfl, hb⟩
  replace K0 := K0.later hb
  replace B := Wd.Ge.trans B hb
  clear hb
  clear HK E0
  have HK := Lib.hid K0
  go_wp2_with (with_reducible refine load_c rfl (.tmp 2) rfl (w.heap.size) rfl HK.out ?_)
  refine (R0.out _ B).mono ?_
  rintro e' w2 ⟨rfl, hb⟩
  replace K0 := K0.later hb
  replace B := Wd.Ge.trans B hb
  clear hb
  clear HK R0
  go_wp2_with fail
  clear K0
  go_wp2_with fail
  refine (DT.out _).mono ?_
  rintro e' u6 ⟨hb, x, rfl, hx⟩
  replace B := Wd.Ge.trans B hb
  clear hb
  rw [dT.out.1] at hx
  obtain ⟨A6, m6, p6, B6, k6, q6, rfl, sa6, sb6, _⟩ := hx
  rw [dT.out.2]
  dsimp only at sa6 sb6 ⊢
  have F6 : Blk (u6.alloc (.cells #[.int .u64 0, .int .u32 0, .int .u64 0, .int .u64 0, .slice none 0 0, .slice none 0 0] 26)) u6.heap.size 26 (csC 0 0 0 0 none 0 0 none 0 0) := Blk.new u6 26 _
  go_upto_region 11 with (with_reducible refine store_c rfl (.tmp 9) (.tmp 62) rfl u6.heap.size rfl rfl F6 ?_; rw [World.setRow_alloc_new])
  have K6 : Blk (u6.alloc (.cells (csC 0 0 0 0 A6 m6 p6 B6 k6 q6) 26)) u6.heap.size 26 (csC 0 0 0 0 A6 m6 p6 B6 k6 q6) := Blk.new _ _ _
  have hb := below1 u6 (.cells (csC 0 0 0 0 A6 m6 p6 B6 k6 q6) 26)
  replace sa6 := sa6.later hb
  replace sb6 := sb6.later hb
  replace B := Wd.Ge.trans B hb
  clear hb
  clear F6
  generalize u6.alloc (.cells (csC 0 0 0 0 A6 m6 p6 B6 k6 q6) 26) = y6 at *
  generalize u6.heap.size = b6 at *
  obtain ⟨_, x0, x1, x2, x3, x4, x5⟩ := blk_lies K6
  have m6l : m6 ≤ maxLen := by rw [sa6.len]; decide
  have k6l : k6 ≤ maxLen := by rw [sb6.len]; decide
  go_wp2_with fail
  refine (ref_any 0 0 0 0 A6 m6 p6 B6 k6 q6 _).mono ?_
  rintro e' w5 ⟨rfl, hb⟩
  clear x0 x1 x2 x3 x4 x5
  replace sa6 := sa6.later hb
  replace sb6 := sb6.later hb
  replace B := Wd.Ge.trans B hb
  clear hb
  go_wp2_with fail
  refine (same_is 0 0 0 0 A6 m6 p6 B6 k6 q6 0 0 0 0 none 0 0 none 0 0 [] [] [] [] true _ sa6 sb6 (Sl.nil _) (Sl.nil _) m6l k6l (decide_eq_true rfl)).mono ?_
  rintro e' w6 ⟨rfl, hb⟩
  replace B := Wd.Ge.trans B hb
  clear hb
  go_wp2_with fail
  refine (fixed_any _).mono ?_
  rintro e' w7 ⟨rfl, hb⟩
  go_wp2_with fail
  go_ret
  exact ⟨rfl, Wd.Ge.trans B hb⟩

set_option maxRecDepth 100000 in
set_option maxHeartbeats 16000000 in
theorem ny (g0 e0 l0 v0 : Int) (A0 : Option Addr) (m0 p0 : Nat) (B0 : Option Addr) (k0 q0 : Nat) (o0 n0 : List Int) (s : ByteArray) (w : World) (hg0 : 0 ≤ g0 ∧ g0 < 18446744073709551616) (he0 : 0 ≤ e0 ∧ e0 < 4294967296) (hl0 : 0 ≤ l0 ∧ l0 < 18446744073709551616) (hv0 : 0 ≤ v0 ∧ v0 < 18446744073709551616) (sa0 : Sl w A0 m0 o0) (sb0 : Sl w B0 k0 n0) (hm0 : m0 ≤ maxLen ∧ k0 ≤ maxLen) (hp0 : m0 ≤ p0 ∧ k0 ≤ q0) (T : ByteArray) (ET : Hid (s.extract 0 (min (s.size : Int) 130).toNat = T)) (hsz : s.size ≤ 9223372036854775807) (DT : Hid (∀ w, Calls Try.prog 13 #[.string T] w (DecP T w))) (E0 : Hid (EncAt w g0 e0 l0 v0 A0 (cut20 m0) p0 B0 (cut20 k0) q0 ⟨#[]⟩ 5)) (R0 : Hid (∀ W, Below w.heap.size w W → Calls Try.prog 17 #[.agg #[.int .u64 g0, .int .u32 e0, .int .u64 l0, .int .u64 v0, .slice A0 (cut20 m0) p0, .slice B0 (cut20 k0) q0]] W fun e' w' => e' = .returned (.bool false) ∧ Below W.heap.size W w')) (g1 e1 l1 v1 : Int) (o1 n1 : List Int) (dT : Hid (decC T.data.toList = ⟨g1, e1, l1, v1, o1, n1⟩ ∧ decE T.data.toList = 0)) (L1 : Hid (o1.length ≤ 16)) (hp1 : Hid (0 ≤ g1 ∧ 0 ≤ l1)) (ok1 : Hid (okC ⟨g1, e1, l1, v1, o1, n1⟩ = true)) (ft1 : Hid (Fits ⟨g1, e1, l1, v1, o1, n1⟩)) (sec1 : Hid (secL ⟨g1, e1, l1, v1, o1, n1⟩ = T.data.toList)) :
    Calls Try.prog 4 #[.agg #[.int .u64 g0, .int .u32 e0, .int .u64 l0, .int .u64 v0, .slice A0 m0 p0, .slice B0 k0 q0], .string s] w fun e' w' => e' = .returned (.bool true) ∧ Below w.heap.size w w' := by
  have SA0 := Lib.hid sa0.cut
  have SB0 := Lib.hid sb0.cut
  clear sa0 sb0
  have B := below1 w (.cells #[.int .u64 g0, .int .u32 e0, .int .u64 l0, .int .u64 v0, .slice A0 m0 p0, .slice B0 k0 q0] 26)
  have K0 : Blk (w.alloc (.cells #[.int .u64 g0, .int .u32 e0, .int .u64 l0, .int .u64 v0, .slice A0 m0 p0, .slice B0 k0 q0] 26)) (w.heap.size) 26 (csC g0 e0 l0 v0 A0 m0 p0 B0 k0 q0) := blk_new w 26 (csC g0 e0 l0 v0 A0 m0 p0 B0 k0 q0) (w.heap.size) (by simp)
  have C0 := Lib.hid (fun w => lawcut_any g0 e0 l0 v0 A0 m0 p0 B0 k0 q0 w hm0.1 hm0.2 hp0.1 hp0.2)
  obtain ⟨wa, EW⟩ : ∃ wa, Hid ((w.alloc (.cells #[.int .u64 g0, .int .u32 e0, .int .u64 l0, .int .u64 v0, .slice A0 m0 p0, .slice B0 k0 q0] 26)) = wa) := ⟨_, rfl⟩
  rw [EW.out] at B K0
  go_enter Try.func4, Try.ntmps4
  go_upto_region 1 with fail
  rw [EW.out]
  clear EW
  generalize cut20 m0 = c0 at *
  generalize cut20 k0 = d0 at *
  have HK := Lib.hid K0
  go_wp2_with (with_reducible refine load_c rfl (.tmp 2) rfl (w.heap.size) rfl HK.out ?_)
  refine (C0.out _).mono ?_
  rintro e' u0 ⟨rfl, hb⟩
  replace K0 := K0.later hb
  replace B := Wd.Ge.trans B hb
  clear hb
  clear HK
  have HK := Lib.hid K0
  go_upto_region 2 with (with_reducible refine store_c rfl (.tmp 2) (.tmp 14) rfl (w.heap.size) rfl rfl HK.out ?_)
  replace K0 := K0.row (csC g0 e0 l0 v0 A0 c0 p0 B0 d0 q0)
  replace B := below_set B (show w.heap.size ≤ w.heap.size by omega) (csC g0 e0 l0 v0 A0 c0 p0 B0 d0 q0)
  generalize u0.setRow (w.heap.size) (csC g0 e0 l0 v0 A0 c0 p0 B0 d0 q0) = z0 at *
  clear HK C0
  go_upto_region 3 with fail
  rw [ET.out]
  have HK := Lib.hid K0
  go_wp2_with (with_reducible refine load_c rfl (.tmp 2) rfl (w.heap.size) rfl HK.out ?_)
  refine (E0.out _ B).mono ?_
  rintro e' w1 ⟨rfl, hb⟩
  replace K0 := K0.later hb
  replace B := Wd.Ge.trans B hb
  clear hb
  clear HK E0
  have HK := Lib.hid K0
  go_wp2_with (with_reducible refine load_c rfl (.tmp 2) rfl (w.heap.size) rfl HK.out ?_)
  refine (R0.out _ B).mono ?_
  rintro e' w2 ⟨rfl, hb⟩
  replace K0 := K0.later hb
  replace B := Wd.Ge.trans B hb
  clear hb
  clear HK R0
  go_wp2_with fail
  clear K0
  go_wp2_with fail
  refine (DT.out _).mono ?_
  rintro e' u6 ⟨hb, x, rfl, hx⟩
  replace B := Wd.Ge.trans B hb
  clear hb
  rw [dT.out.1] at hx
  obtain ⟨A6, m6, p6, B6, k6, q6, rfl, sa6, sb6, _⟩ := hx
  rw [dT.out.2]
  dsimp only at sa6 sb6 ⊢
  have F6 : Blk (u6.alloc (.cells #[.int .u64 0, .int .u32 0, .int .u64 0, .int .u64 0, .slice none 0 0, .slice none 0 0] 26)) u6.heap.size 26 (csC 0 0 0 0 none 0 0 none 0 0) := Blk.new u6 26 _
  go_upto_region 11 with (with_reducible refine store_c rfl (.tmp 9) (.tmp 62) rfl u6.heap.size rfl rfl F6 ?_; rw [World.setRow_alloc_new])
  have K6 : Blk (u6.alloc (.cells (csC g1 e1 l1 v1 A6 m6 p6 B6 k6 q6) 26)) u6.heap.size 26 (csC g1 e1 l1 v1 A6 m6 p6 B6 k6 q6) := Blk.new _ _ _
  have hb := below1 u6 (.cells (csC g1 e1 l1 v1 A6 m6 p6 B6 k6 q6) 26)
  replace sa6 := sa6.later hb
  replace sb6 := sb6.later hb
  replace B := Wd.Ge.trans B hb
  clear hb
  clear F6
  generalize u6.alloc (.cells (csC g1 e1 l1 v1 A6 m6 p6 B6 k6 q6) 26) = y6 at *
  generalize u6.heap.size = b6 at *
  have HK := Lib.hid K6
  have R1 := Lib.hid (fun W hA hB => right_is g1 e1 l1 v1 A6 m6 p6 B6 k6 q6 o1 n1 true W hA hB (by rw [sa6.len]; have := L1.out; unfold maxLen; omega) hp1.out.1 hp1.out.2 ok1.out)
  have X1 := Lib.hid (fun W hA hB => encode_yes g1 e1 l1 v1 A6 m6 p6 B6 k6 q6 o1 n1 T W hA hB ft1.out ok1.out sec1.out)
  go_wp2_with (with_reducible refine load_c rfl (.tmp 9) rfl b6 rfl HK.out ?_)
  refine (X1.out _ sa6 sb6).mono ?_
  rintro e' w5 ⟨rfl, hb⟩
  replace K6 := K6.later hb
  replace sa6 := sa6.later hb
  replace sb6 := sb6.later hb
  replace B := Wd.Ge.trans B hb
  clear hb
  clear HK
  have hq := eq_self T
  obtain ⟨_, x0, x1, x2, x3, x4, x5⟩ := blk_lies K6
  go_wp2_with fail
  refine (R1.out _ sa6 sb6).mono ?_
  rintro e' w6 ⟨rfl, hb⟩
  clear x0 x1 x2 x3 x4 x5
  replace B := Wd.Ge.trans B hb
  clear hb
  go_wp2_with fail
  refine (fixed_any _).mono ?_
  rintro e' w7 ⟨rfl, hb⟩
  go_wp2_with fail
  go_ret
  exact ⟨rfl, Wd.Ge.trans B hb⟩

set_option maxRecDepth 100000 in
set_option maxHeartbeats 16000000 in
theorem yn (g0 e0 l0 v0 : Int) (A0 : Option Addr) (m0 p0 : Nat) (B0 : Option Addr) (k0 q0 : Nat) (o0 n0 : List Int) (s : ByteArray) (w : World) (hg0 : 0 ≤ g0 ∧ g0 < 18446744073709551616) (he0 : 0 ≤ e0 ∧ e0 < 4294967296) (hl0 : 0 ≤ l0 ∧ l0 < 18446744073709551616) (hv0 : 0 ≤ v0 ∧ v0 < 18446744073709551616) (sa0 : Sl w A0 m0 o0) (sb0 : Sl w B0 k0 n0) (hm0 : m0 ≤ maxLen ∧ k0 ≤ maxLen) (hp0 : m0 ≤ p0 ∧ k0 ≤ q0) (T : ByteArray) (ET : Hid (s.extract 0 (min (s.size : Int) 130).toNat = T)) (hsz : s.size ≤ 9223372036854775807) (DT : Hid (∀ w, Calls Try.prog 13 #[.string T] w (DecP T w))) (S : ByteArray) (E0 : Hid (EncAt w g0 e0 l0 v0 A0 (cut20 m0) p0 B0 (cut20 k0) q0 S 0)) (R0 : Hid (∀ W, Below w.heap.size w W → Calls Try.prog 17 #[.agg #[.int .u64 g0, .int .u32 e0, .int .u64 l0, .int .u64 v0, .slice A0 (cut20 m0) p0, .slice B0 (cut20 k0) q0]] W fun e' w' => e' = .returned (.bool true) ∧ Below W.heap.size W w')) (D0 : Hid (∀ w, Calls Try.prog 13 #[.string S] w (DecP S w))) (dS : Hid (decC S.data.toList = (⟨g0, e0, l0, v0, o0.take 20, n0.take 20⟩ : Chk) ∧ decE S.data.toList = 0)) (dT : Hid (decC T.data.toList = (⟨0, 0, 0, 0, [], []⟩ : Chk) ∧ decE T.data.toList = 5)) :
    Calls Try.prog 4 #[.agg #[.int .u64 g0, .int .u32 e0, .int .u64 l0, .int .u64 v0, .slice A0 m0 p0, .slice B0 k0 q0], .string s] w fun e' w' => e' = .returned (.bool true) ∧ Below w.heap.size w w' := by
  have SA0 := Lib.hid sa0.cut
  have SB0 := Lib.hid sb0.cut
  clear sa0 sb0
  have B := below1 w (.cells #[.int .u64 g0, .int .u32 e0, .int .u64 l0, .int .u64 v0, .slice A0 m0 p0, .slice B0 k0 q0] 26)
  have K0 : Blk (w.alloc (.cells #[.int .u64 g0, .int .u32 e0, .int .u64 l0, .int .u64 v0, .slice A0 m0 p0, .slice B0 k0 q0] 26)) (w.heap.size) 26 (csC g0 e0 l0 v0 A0 m0 p0 B0 k0 q0) := blk_new w 26 (csC g0 e0 l0 v0 A0 m0 p0 B0 k0 q0) (w.heap.size) (by simp)
  have C0 := Lib.hid (fun w => lawcut_any g0 e0 l0 v0 A0 m0 p0 B0 k0 q0 w hm0.1 hm0.2 hp0.1 hp0.2)
  obtain ⟨wa, EW⟩ : ∃ wa, Hid ((w.alloc (.cells #[.int .u64 g0, .int .u32 e0, .int .u64 l0, .int .u64 v0, .slice A0 m0 p0, .slice B0 k0 q0] 26)) = wa) := ⟨_, rfl⟩
  rw [EW.out] at B K0
  go_enter Try.func4, Try.ntmps4
  go_upto_region 1 with fail
  rw [EW.out]
  clear EW
  generalize cut20 m0 = c0 at *
  generalize cut20 k0 = d0 at *
  have HK := Lib.hid K0
  go_wp2_with (with_reducible refine load_c rfl (.tmp 2) rfl (w.heap.size) rfl HK.out ?_)
  refine (C0.out _).mono ?_
  rintro e' u0 ⟨rfl, hb⟩
  replace K0 := K0.later hb
  replace B := Wd.Ge.trans B hb
  clear hb
  clear HK
  have HK := Lib.hid K0
  go_upto_region 2 with (with_reducible refine store_c rfl (.tmp 2) (.tmp 14) rfl (w.heap.size) rfl rfl HK.out ?_)
  replace K0 := K0.row (csC g0 e0 l0 v0 A0 c0 p0 B0 d0 q0)
  replace B := below_set B (show w.heap.size ≤ w.heap.size by omega) (csC g0 e0 l0 v0 A0 c0 p0 B0 d0 q0)
  generalize u0.setRow (w.heap.size) (csC g0 e0 l0 v0 A0 c0 p0 B0 d0 q0) = z0 at *
  clear HK C0
  go_upto_region 3 with fail
  rw [ET.out]
  have HK := Lib.hid K0
  go_wp2_with (with_reducible refine load_c rfl (.tmp 2) rfl (w.heap.size) rfl HK.out ?_)
  refine (E0.out _ B).mono ?_
  rintro e' w1 ⟨rfl, hb⟩
  replace K0 := K0.later hb
  replace B := Wd.Ge.trans B hb
  clear hb
  clear HK E0
  have HK := Lib.hid K0
  go_wp2_with (with_reducible refine load_c rfl (.tmp 2) rfl (w.heap.size) rfl HK.out ?_)
  refine (R0.out _ B).mono ?_
  rintro e' w2 ⟨rfl, hb⟩
  replace K0 := K0.later hb
  replace B := Wd.Ge.trans B hb
  clear hb
  clear HK R0
  go_wp2_with fail
  refine (D0.out _).mono ?_
  rintro e' u5 ⟨hb, x, rfl, hx⟩
  replace K0 := K0.later hb
  replace B := Wd.Ge.trans B hb
  clear hb
  rw [dS.out.1] at hx
  obtain ⟨A5, m5, p5, B5, k5, q5, rfl, sa5, sb5, _⟩ := hx
  rw [dS.out.2]
  dsimp only at sa5 sb5 ⊢
  have F5 : Blk (u5.alloc (.cells #[.int .u64 0, .int .u32 0, .int .u64 0, .int .u64 0, .slice none 0 0, .slice none 0 0] 26)) u5.heap.size 26 (csC 0 0 0 0 none 0 0 none 0 0) := Blk.new u5 26 _
  go_upto_region 8 with (with_reducible refine store_c rfl (.tmp 7) (.tmp 47) rfl u5.heap.size rfl rfl F5 ?_; rw [World.setRow_alloc_new])
  have K5 : Blk (u5.alloc (.cells (csC g0 e0 l0 v0 A5 m5 p5 B5 k5 q5) 26)) u5.heap.size 26 (csC g0 e0 l0 v0 A5 m5 p5 B5 k5 q5) := Blk.new _ _ _
  have hb := below1 u5 (.cells (csC g0 e0 l0 v0 A5 m5 p5 B5 k5 q5) 26)
  replace sa5 := sa5.later hb
  replace sb5 := sb5.later hb
  replace K0 := K0.later hb
  replace B := Wd.Ge.trans B hb
  clear hb
  clear F5
  generalize u5.alloc (.cells (csC g0 e0 l0 v0 A5 m5 p5 B5 k5 q5) 26) = y5 at *
  generalize u5.heap.size = b5 at *
  have m5l : m5 ≤ maxLen := by rw [sa5.len, List.length_take]; unfold maxLen; omega
  have k5l : k5 ≤ maxLen := by rw [sb5.len, List.length_take]; unfold maxLen; omega
  have I : Its w [(w.heap.size, csC g0 e0 l0 v0 A0 c0 p0 B0 d0 q0), (b5, csC g0 e0 l0 v0 A5 m5 p5 B5 k5 q5)] [(A5, m5, o0.take 20), (B5, k5, n0.take 20)] y5 := (((Its.nil B).cons K5).cons K0).scons sb5 |>.scons sa5
  clear B K0 K5 sa5 sb5 D0 dS
  have hne : Nonempty (In (Its w [(w.heap.size, csC g0 e0 l0 v0 A0 c0 p0 B0 d0 q0), (b5, csC g0 e0 l0 v0 A5 m5 p5 B5 k5 q5)] [(A5, m5, o0.take 20), (B5, k5, n0.take 20)])) := ⟨⟨_, I⟩⟩
  have fa0 : ∀ j : In (Its w [(w.heap.size, csC g0 e0 l0 v0 A0 c0 p0 B0 d0 q0), (b5, csC g0 e0 l0 v0 A5 m5 p5 B5 k5 q5)] [(A5, m5, o0.take 20), (B5, k5, n0.take 20)]), j.W.cell? ⟨w.heap.size, 0, none⟩ = some (.int .u64 g0) := fun j => (j.h.at_ 0 rfl).cell 0
  have fa1 : ∀ j : In (Its w [(w.heap.size, csC g0 e0 l0 v0 A0 c0 p0 B0 d0 q0), (b5, csC g0 e0 l0 v0 A5 m5 p5 B5 k5 q5)] [(A5, m5, o0.take 20), (B5, k5, n0.take 20)]), j.W.cell? ⟨w.heap.size, 1, none⟩ = some (.int .u32 e0) := fun j => (j.h.at_ 0 rfl).cell 1
  have fa2 : ∀ j : In (Its w [(w.heap.size, csC g0 e0 l0 v0 A0 c0 p0 B0 d0 q0), (b5, csC g0 e0 l0 v0 A5 m5 p5 B5 k5 q5)] [(A5, m5, o0.take 20), (B5, k5, n0.take 20)]), j.W.cell? ⟨w.heap.size, 2, none⟩ = some (.int .u64 l0) := fun j => (j.h.at_ 0 rfl).cell 2
  have fa3 : ∀ j : In (Its w [(w.heap.size, csC g0 e0 l0 v0 A0 c0 p0 B0 d0 q0), (b5, csC g0 e0 l0 v0 A5 m5 p5 B5 k5 q5)] [(A5, m5, o0.take 20), (B5, k5, n0.take 20)]), j.W.cell? ⟨w.heap.size, 3, none⟩ = some (.int .u64 v0) := fun j => (j.h.at_ 0 rfl).cell 3
  have fa4 : ∀ j : In (Its w [(w.heap.size, csC g0 e0 l0 v0 A0 c0 p0 B0 d0 q0), (b5, csC g0 e0 l0 v0 A5 m5 p5 B5 k5 q5)] [(A5, m5, o0.take 20), (B5, k5, n0.take 20)]), j.W.cell? ⟨w.heap.size, 4, none⟩ = some (.slice A0 c0 p0) := fun j => (j.h.at_ 0 rfl).cell 4
  have fa5 : ∀ j : In (Its w [(w.heap.size, csC g0 e0 l0 v0 A0 c0 p0 B0 d0 q0), (b5, csC g0 e0 l0 v0 A5 m5 p5 B5 k5 q5)] [(A5, m5, o0.take 20), (B5, k5, n0.take 20)]), j.W.cell? ⟨w.heap.size, 5, none⟩ = some (.slice B0 d0 q0) := fun j => (j.h.at_ 0 rfl).cell 5
  have fx0 : ∀ j : In (Its w [(w.heap.size, csC g0 e0 l0 v0 A0 c0 p0 B0 d0 q0), (b5, csC g0 e0 l0 v0 A5 m5 p5 B5 k5 q5)] [(A5, m5, o0.take 20), (B5, k5, n0.take 20)]), j.W.cell? ⟨b5, 0, none⟩ = some (.int .u64 g0) := fun j => (j.h.at_ 1 rfl).cell 0
  have fx1 : ∀ j : In (Its w [(w.heap.size, csC g0 e0 l0 v0 A0 c0 p0 B0 d0 q0), (b5, csC g0 e0 l0 v0 A5 m5 p5 B5 k5 q5)] [(A5, m5, o0.take 20), (B5, k5, n0.take 20)]), j.W.cell? ⟨b5, 1, none⟩ = some (.int .u32 e0) := fun j => (j.h.at_ 1 rfl).cell 1
  have fx2 : ∀ j : In (Its w [(w.heap.size, csC g0 e0 l0 v0 A0 c0 p0 B0 d0 q0), (b5, csC g0 e0 l0 v0 A5 m5 p5 B5 k5 q5)] [(A5, m5, o0.take 20), (B5, k5, n0.take 20)]), j.W.cell? ⟨b5, 2, none⟩ = some (.int .u64 l0) := fun j => (j.h.at_ 1 rfl).cell 2
  have fx3 : ∀ j : In (Its w [(w.heap.size, csC g0 e0 l0 v0 A0 c0 p0 B0 d0 q0), (b5, csC g0 e0 l0 v0 A5 m5 p5 B5 k5 q5)] [(A5, m5, o0.take 20), (B5, k5, n0.take 20)]), j.W.cell? ⟨b5, 3, none⟩ = some (.int .u64 v0) := fun j => (j.h.at_ 1 rfl).cell 3
  have fx4 : ∀ j : In (Its w [(w.heap.size, csC g0 e0 l0 v0 A0 c0 p0 B0 d0 q0), (b5, csC g0 e0 l0 v0 A5 m5 p5 B5 k5 q5)] [(A5, m5, o0.take 20), (B5, k5, n0.take 20)]), j.W.cell? ⟨b5, 4, none⟩ = some (.slice A5 m5 p5) := fun j => (j.h.at_ 1 rfl).cell 4
  have fx5 : ∀ j : In (Its w [(w.heap.size, csC g0 e0 l0 v0 A0 c0 p0 B0 d0 q0), (b5, csC g0 e0 l0 v0 A5 m5 p5 B5 k5 q5)] [(A5, m5, o0.take 20), (B5, k5, n0.take 20)]), j.W.cell? ⟨b5, 5, none⟩ = some (.slice B5 k5 q5) := fun j => (j.h.at_ 1 rfl).cell 5
  have SQ := Lib.hid (fun W (hi : Its w [(w.heap.size, csC g0 e0 l0 v0 A0 c0 p0 B0 d0 q0), (b5, csC g0 e0 l0 v0 A5 m5 p5 B5 k5 q5)] [(A5, m5, o0.take 20), (B5, k5, n0.take 20)] W) => same_is g0 e0 l0 v0 A5 m5 p5 B5 k5 q5 g0 e0 l0 v0 A0 c0 p0 B0 d0 q0 (o0.take 20) (n0.take 20) (o0.take 20) (n0.take 20) true W (hi.sl 0 rfl) (hi.sl 1 rfl) (SA0.out.later hi.b) (SB0.out.later hi.b) m5l k5l (decide_eq_true rfl))
  refine region_class (Its w [(w.heap.size, csC g0 e0 l0 v0 A0 c0 p0 B0 d0 q0), (b5, csC g0 e0 l0 v0 A5 m5 p5 B5 k5 q5)] [(A5, m5, o0.take 20), (B5, k5, n0.take 20)]) (by kernel_rfl) (by kernel_rfl) I.drawn ?_
  repeat (go_big_quiet_step (first
    | (go_at_call 12; with_reducible exact class_call _ (fun hi => its_ge hi (ref_any g0 e0 l0 v0 A5 m5 p5 B5 k5 q5 _)))
    | (go_at_call 12; with_reducible exact class_call _ (fun hi => its_ge hi (ref_any g0 e0 l0 v0 A0 c0 p0 B0 d0 q0 _)))
    | (go_at_call 19; with_reducible exact class_call _ (fun hi => its_ge hi (SQ.out _ hi)))))
  refine wpQuiet_nil ?_
  rintro _ ⟨j1, rfl⟩
  have B := j1.h.b
  generalize j1.W = w4 at *
  clear hne I j1 SQ fa0 fx0 fa1 fx1 fa2 fx2 fa3 fx3 fa4 fx4 fa5 fx5
  go_wp2_with fail
  refine (DT.out _).mono ?_
  rintro e' u6 ⟨hb, x, rfl, hx⟩
  replace B := Wd.Ge.trans B hb
  clear hb
  rw [dT.out.1] at hx
  obtain ⟨A6, m6, p6, B6, k6, q6, rfl, sa6, sb6, _⟩ := hx
  rw [dT.out.2]
  dsimp only at sa6 sb6 ⊢
  have F6 : Blk (u6.alloc (.cells #[.int .u64 0, .int .u32 0, .int .u64 0, .int .u64 0, .slice none 0 0, .slice none 0 0] 26)) u6.heap.size 26 (csC 0 0 0 0 none 0 0 none 0 0) := Blk.new u6 26 _
  go_upto_region 11 with (with_reducible refine store_c rfl (.tmp 9) (.tmp 62) rfl u6.heap.size rfl rfl F6 ?_; rw [World.setRow_alloc_new])
  have K6 : Blk (u6.alloc (.cells (csC 0 0 0 0 A6 m6 p6 B6 k6 q6) 26)) u6.heap.size 26 (csC 0 0 0 0 A6 m6 p6 B6 k6 q6) := Blk.new _ _ _
  have hb := below1 u6 (.cells (csC 0 0 0 0 A6 m6 p6 B6 k6 q6) 26)
  replace sa6 := sa6.later hb
  replace sb6 := sb6.later hb
  replace B := Wd.Ge.trans B hb
  clear hb
  clear F6
  generalize u6.alloc (.cells (csC 0 0 0 0 A6 m6 p6 B6 k6 q6) 26) = y6 at *
  generalize u6.heap.size = b6 at *
  obtain ⟨_, x0, x1, x2, x3, x4, x5⟩ := blk_lies K6
  have m6l : m6 ≤ maxLen := by rw [sa6.len]; decide
  have k6l : k6 ≤ maxLen := by rw [sb6.len]; decide
  go_wp2_with fail
  refine (ref_any 0 0 0 0 A6 m6 p6 B6 k6 q6 _).mono ?_
  rintro e' w5 ⟨rfl, hb⟩
  clear x0 x1 x2 x3 x4 x5
  replace sa6 := sa6.later hb
  replace sb6 := sb6.later hb
  replace B := Wd.Ge.trans B hb
  clear hb
  go_wp2_with fail
  refine (same_is 0 0 0 0 A6 m6 p6 B6 k6 q6 0 0 0 0 none 0 0 none 0 0 [] [] [] [] true _ sa6 sb6 (Sl.nil _) (Sl.nil _) m6l k6l (decide_eq_true rfl)).mono ?_
  rintro e' w6 ⟨rfl, hb⟩
  replace B := Wd.Ge.trans B hb
  clear hb
  go_wp2_with fail
  refine (fixed_any _).mono ?_
  rintro e' w7 ⟨rfl, hb⟩
  go_wp2_with fail
  go_ret
  exact ⟨rfl, Wd.Ge.trans B hb⟩

set_option maxRecDepth 100000 in
set_option maxHeartbeats 16000000 in
theorem yy (g0 e0 l0 v0 : Int) (A0 : Option Addr) (m0 p0 : Nat) (B0 : Option Addr) (k0 q0 : Nat) (o0 n0 : List Int) (s : ByteArray) (w : World) (hg0 : 0 ≤ g0 ∧ g0 < 18446744073709551616) (he0 : 0 ≤ e0 ∧ e0 < 4294967296) (hl0 : 0 ≤ l0 ∧ l0 < 18446744073709551616) (hv0 : 0 ≤ v0 ∧ v0 < 18446744073709551616) (sa0 : Sl w A0 m0 o0) (sb0 : Sl w B0 k0 n0) (hm0 : m0 ≤ maxLen ∧ k0 ≤ maxLen) (hp0 : m0 ≤ p0 ∧ k0 ≤ q0) (T : ByteArray) (ET : Hid (s.extract 0 (min (s.size : Int) 130).toNat = T)) (hsz : s.size ≤ 9223372036854775807) (DT : Hid (∀ w, Calls Try.prog 13 #[.string T] w (DecP T w))) (S : ByteArray) (E0 : Hid (EncAt w g0 e0 l0 v0 A0 (cut20 m0) p0 B0 (cut20 k0) q0 S 0)) (R0 : Hid (∀ W, Below w.heap.size w W → Calls Try.prog 17 #[.agg #[.int .u64 g0, .int .u32 e0, .int .u64 l0, .int .u64 v0, .slice A0 (cut20 m0) p0, .slice B0 (cut20 k0) q0]] W fun e' w' => e' = .returned (.bool true) ∧ Below W.heap.size W w')) (D0 : Hid (∀ w, Calls Try.prog 13 #[.string S] w (DecP S w))) (dS : Hid (decC S.data.toList = (⟨g0, e0, l0, v0, o0.take 20, n0.take 20⟩ : Chk) ∧ decE S.data.toList = 0)) (g1 e1 l1 v1 : Int) (o1 n1 : List Int) (dT : Hid (decC T.data.toList = ⟨g1, e1, l1, v1, o1, n1⟩ ∧ decE T.data.toList = 0)) (L1 : Hid (o1.length ≤ 16)) (hp1 : Hid (0 ≤ g1 ∧ 0 ≤ l1)) (ok1 : Hid (okC ⟨g1, e1, l1, v1, o1, n1⟩ = true)) (ft1 : Hid (Fits ⟨g1, e1, l1, v1, o1, n1⟩)) (sec1 : Hid (secL ⟨g1, e1, l1, v1, o1, n1⟩ = T.data.toList)) :
    Calls Try.prog 4 #[.agg #[.int .u64 g0, .int .u32 e0, .int .u64 l0, .int .u64 v0, .slice A0 m0 p0, .slice B0 k0 q0], .string s] w fun e' w' => e' = .returned (.bool true) ∧ Below w.heap.size w w' := by
  have SA0 := Lib.hid sa0.cut
  have SB0 := Lib.hid sb0.cut
  clear sa0 sb0
  have B := below1 w (.cells #[.int .u64 g0, .int .u32 e0, .int .u64 l0, .int .u64 v0, .slice A0 m0 p0, .slice B0 k0 q0] 26)
  have K0 : Blk (w.alloc (.cells #[.int .u64 g0, .int .u32 e0, .int .u64 l0, .int .u64 v0, .slice A0 m0 p0, .slice B0 k0 q0] 26)) (w.heap.size) 26 (csC g0 e0 l0 v0 A0 m0 p0 B0 k0 q0) := blk_new w 26 (csC g0 e0 l0 v0 A0 m0 p0 B0 k0 q0) (w.heap.size) (by simp)
  have C0 := Lib.hid (fun w => lawcut_any g0 e0 l0 v0 A0 m0 p0 B0 k0 q0 w hm0.1 hm0.2 hp0.1 hp0.2)
  obtain ⟨wa, EW⟩ : ∃ wa, Hid ((w.alloc (.cells #[.int .u64 g0, .int .u32 e0, .int .u64 l0, .int .u64 v0, .slice A0 m0 p0, .slice B0 k0 q0] 26)) = wa) := ⟨_, rfl⟩
  rw [EW.out] at B K0
  go_enter Try.func4, Try.ntmps4
  go_upto_region 1 with fail
  rw [EW.out]
  clear EW
  generalize cut20 m0 = c0 at *
  generalize cut20 k0 = d0 at *
  have HK := Lib.hid K0
  go_wp2_with (with_reducible refine load_c rfl (.tmp 2) rfl (w.heap.size) rfl HK.out ?_)
  refine (C0.out _).mono ?_
  rintro e' u0 ⟨rfl, hb⟩
  replace K0 := K0.later hb
  replace B := Wd.Ge.trans B hb
  clear hb
  clear HK
  have HK := Lib.hid K0
  go_upto_region 2 with (with_reducible refine store_c rfl (.tmp 2) (.tmp 14) rfl (w.heap.size) rfl rfl HK.out ?_)
  replace K0 := K0.row (csC g0 e0 l0 v0 A0 c0 p0 B0 d0 q0)
  replace B := below_set B (show w.heap.size ≤ w.heap.size by omega) (csC g0 e0 l0 v0 A0 c0 p0 B0 d0 q0)
  generalize u0.setRow (w.heap.size) (csC g0 e0 l0 v0 A0 c0 p0 B0 d0 q0) = z0 at *
  clear HK C0
  go_upto_region 3 with fail
  rw [ET.out]
  have HK := Lib.hid K0
  go_wp2_with (with_reducible refine load_c rfl (.tmp 2) rfl (w.heap.size) rfl HK.out ?_)
  refine (E0.out _ B).mono ?_
  rintro e' w1 ⟨rfl, hb⟩
  replace K0 := K0.later hb
  replace B := Wd.Ge.trans B hb
  clear hb
  clear HK E0
  have HK := Lib.hid K0
  go_wp2_with (with_reducible refine load_c rfl (.tmp 2) rfl (w.heap.size) rfl HK.out ?_)
  refine (R0.out _ B).mono ?_
  rintro e' w2 ⟨rfl, hb⟩
  replace K0 := K0.later hb
  replace B := Wd.Ge.trans B hb
  clear hb
  clear HK R0
  go_wp2_with fail
  refine (D0.out _).mono ?_
  rintro e' u5 ⟨hb, x, rfl, hx⟩
  replace K0 := K0.later hb
  replace B := Wd.Ge.trans B hb
  clear hb
  rw [dS.out.1] at hx
  obtain ⟨A5, m5, p5, B5, k5, q5, rfl, sa5, sb5, _⟩ := hx
  rw [dS.out.2]
  dsimp only at sa5 sb5 ⊢
  have F5 : Blk (u5.alloc (.cells #[.int .u64 0, .int .u32 0, .int .u64 0, .int .u64 0, .slice none 0 0, .slice none 0 0] 26)) u5.heap.size 26 (csC 0 0 0 0 none 0 0 none 0 0) := Blk.new u5 26 _
  go_upto_region 8 with (with_reducible refine store_c rfl (.tmp 7) (.tmp 47) rfl u5.heap.size rfl rfl F5 ?_; rw [World.setRow_alloc_new])
  have K5 : Blk (u5.alloc (.cells (csC g0 e0 l0 v0 A5 m5 p5 B5 k5 q5) 26)) u5.heap.size 26 (csC g0 e0 l0 v0 A5 m5 p5 B5 k5 q5) := Blk.new _ _ _
  have hb := below1 u5 (.cells (csC g0 e0 l0 v0 A5 m5 p5 B5 k5 q5) 26)
  replace sa5 := sa5.later hb
  replace sb5 := sb5.later hb
  replace K0 := K0.later hb
  replace B := Wd.Ge.trans B hb
  clear hb
  clear F5
  generalize u5.alloc (.cells (csC g0 e0 l0 v0 A5 m5 p5 B5 k5 q5) 26) = y5 at *
  generalize u5.heap.size = b5 at *
  have m5l : m5 ≤ maxLen := by rw [sa5.len, List.length_take]; unfold maxLen; omega
  have k5l : k5 ≤ maxLen := by rw [sb5.len, List.length_take]; unfold maxLen; omega
  have I : Its w [(w.heap.size, csC g0 e0 l0 v0 A0 c0 p0 B0 d0 q0), (b5, csC g0 e0 l0 v0 A5 m5 p5 B5 k5 q5)] [(A5, m5, o0.take 20), (B5, k5, n0.take 20)] y5 := (((Its.nil B).cons K5).cons K0).scons sb5 |>.scons sa5
  clear B K0 K5 sa5 sb5 D0 dS
  have hne : Nonempty (In (Its w [(w.heap.size, csC g0 e0 l0 v0 A0 c0 p0 B0 d0 q0), (b5, csC g0 e0 l0 v0 A5 m5 p5 B5 k5 q5)] [(A5, m5, o0.take 20), (B5, k5, n0.take 20)])) := ⟨⟨_, I⟩⟩
  have fa0 : ∀ j : In (Its w [(w.heap.size, csC g0 e0 l0 v0 A0 c0 p0 B0 d0 q0), (b5, csC g0 e0 l0 v0 A5 m5 p5 B5 k5 q5)] [(A5, m5, o0.take 20), (B5, k5, n0.take 20)]), j.W.cell? ⟨w.heap.size, 0, none⟩ = some (.int .u64 g0) := fun j => (j.h.at_ 0 rfl).cell 0
  have fa1 : ∀ j : In (Its w [(w.heap.size, csC g0 e0 l0 v0 A0 c0 p0 B0 d0 q0), (b5, csC g0 e0 l0 v0 A5 m5 p5 B5 k5 q5)] [(A5, m5, o0.take 20), (B5, k5, n0.take 20)]), j.W.cell? ⟨w.heap.size, 1, none⟩ = some (.int .u32 e0) := fun j => (j.h.at_ 0 rfl).cell 1
  have fa2 : ∀ j : In (Its w [(w.heap.size, csC g0 e0 l0 v0 A0 c0 p0 B0 d0 q0), (b5, csC g0 e0 l0 v0 A5 m5 p5 B5 k5 q5)] [(A5, m5, o0.take 20), (B5, k5, n0.take 20)]), j.W.cell? ⟨w.heap.size, 2, none⟩ = some (.int .u64 l0) := fun j => (j.h.at_ 0 rfl).cell 2
  have fa3 : ∀ j : In (Its w [(w.heap.size, csC g0 e0 l0 v0 A0 c0 p0 B0 d0 q0), (b5, csC g0 e0 l0 v0 A5 m5 p5 B5 k5 q5)] [(A5, m5, o0.take 20), (B5, k5, n0.take 20)]), j.W.cell? ⟨w.heap.size, 3, none⟩ = some (.int .u64 v0) := fun j => (j.h.at_ 0 rfl).cell 3
  have fa4 : ∀ j : In (Its w [(w.heap.size, csC g0 e0 l0 v0 A0 c0 p0 B0 d0 q0), (b5, csC g0 e0 l0 v0 A5 m5 p5 B5 k5 q5)] [(A5, m5, o0.take 20), (B5, k5, n0.take 20)]), j.W.cell? ⟨w.heap.size, 4, none⟩ = some (.slice A0 c0 p0) := fun j => (j.h.at_ 0 rfl).cell 4
  have fa5 : ∀ j : In (Its w [(w.heap.size, csC g0 e0 l0 v0 A0 c0 p0 B0 d0 q0), (b5, csC g0 e0 l0 v0 A5 m5 p5 B5 k5 q5)] [(A5, m5, o0.take 20), (B5, k5, n0.take 20)]), j.W.cell? ⟨w.heap.size, 5, none⟩ = some (.slice B0 d0 q0) := fun j => (j.h.at_ 0 rfl).cell 5
  have fx0 : ∀ j : In (Its w [(w.heap.size, csC g0 e0 l0 v0 A0 c0 p0 B0 d0 q0), (b5, csC g0 e0 l0 v0 A5 m5 p5 B5 k5 q5)] [(A5, m5, o0.take 20), (B5, k5, n0.take 20)]), j.W.cell? ⟨b5, 0, none⟩ = some (.int .u64 g0) := fun j => (j.h.at_ 1 rfl).cell 0
  have fx1 : ∀ j : In (Its w [(w.heap.size, csC g0 e0 l0 v0 A0 c0 p0 B0 d0 q0), (b5, csC g0 e0 l0 v0 A5 m5 p5 B5 k5 q5)] [(A5, m5, o0.take 20), (B5, k5, n0.take 20)]), j.W.cell? ⟨b5, 1, none⟩ = some (.int .u32 e0) := fun j => (j.h.at_ 1 rfl).cell 1
  have fx2 : ∀ j : In (Its w [(w.heap.size, csC g0 e0 l0 v0 A0 c0 p0 B0 d0 q0), (b5, csC g0 e0 l0 v0 A5 m5 p5 B5 k5 q5)] [(A5, m5, o0.take 20), (B5, k5, n0.take 20)]), j.W.cell? ⟨b5, 2, none⟩ = some (.int .u64 l0) := fun j => (j.h.at_ 1 rfl).cell 2
  have fx3 : ∀ j : In (Its w [(w.heap.size, csC g0 e0 l0 v0 A0 c0 p0 B0 d0 q0), (b5, csC g0 e0 l0 v0 A5 m5 p5 B5 k5 q5)] [(A5, m5, o0.take 20), (B5, k5, n0.take 20)]), j.W.cell? ⟨b5, 3, none⟩ = some (.int .u64 v0) := fun j => (j.h.at_ 1 rfl).cell 3
  have fx4 : ∀ j : In (Its w [(w.heap.size, csC g0 e0 l0 v0 A0 c0 p0 B0 d0 q0), (b5, csC g0 e0 l0 v0 A5 m5 p5 B5 k5 q5)] [(A5, m5, o0.take 20), (B5, k5, n0.take 20)]), j.W.cell? ⟨b5, 4, none⟩ = some (.slice A5 m5 p5) := fun j => (j.h.at_ 1 rfl).cell 4
  have fx5 : ∀ j : In (Its w [(w.heap.size, csC g0 e0 l0 v0 A0 c0 p0 B0 d0 q0), (b5, csC g0 e0 l0 v0 A5 m5 p5 B5 k5 q5)] [(A5, m5, o0.take 20), (B5, k5, n0.take 20)]), j.W.cell? ⟨b5, 5, none⟩ = some (.slice B5 k5 q5) := fun j => (j.h.at_ 1 rfl).cell 5
  have SQ := Lib.hid (fun W (hi : Its w [(w.heap.size, csC g0 e0 l0 v0 A0 c0 p0 B0 d0 q0), (b5, csC g0 e0 l0 v0 A5 m5 p5 B5 k5 q5)] [(A5, m5, o0.take 20), (B5, k5, n0.take 20)] W) => same_is g0 e0 l0 v0 A5 m5 p5 B5 k5 q5 g0 e0 l0 v0 A0 c0 p0 B0 d0 q0 (o0.take 20) (n0.take 20) (o0.take 20) (n0.take 20) true W (hi.sl 0 rfl) (hi.sl 1 rfl) (SA0.out.later hi.b) (SB0.out.later hi.b) m5l k5l (decide_eq_true rfl))
  refine region_class (Its w [(w.heap.size, csC g0 e0 l0 v0 A0 c0 p0 B0 d0 q0), (b5, csC g0 e0 l0 v0 A5 m5 p5 B5 k5 q5)] [(A5, m5, o0.take 20), (B5, k5, n0.take 20)]) (by kernel_rfl) (by kernel_rfl) I.drawn ?_
  repeat (go_big_quiet_step (first
    | (go_at_call 12; with_reducible exact class_call _ (fun hi => its_ge hi (ref_any g0 e0 l0 v0 A5 m5 p5 B5 k5 q5 _)))
    | (go_at_call 12; with_reducible exact class_call _ (fun hi => its_ge hi (ref_any g0 e0 l0 v0 A0 c0 p0 B0 d0 q0 _)))
    | (go_at_call 19; with_reducible exact class_call _ (fun hi => its_ge hi (SQ.out _ hi)))))
  refine wpQuiet_nil ?_
  rintro _ ⟨j1, rfl⟩
  have B := j1.h.b
  generalize j1.W = w4 at *
  clear hne I j1 SQ fa0 fx0 fa1 fx1 fa2 fx2 fa3 fx3 fa4 fx4 fa5 fx5
  go_wp2_with fail
  refine (DT.out _).mono ?_
  rintro e' u6 ⟨hb, x, rfl, hx⟩
  replace B := Wd.Ge.trans B hb
  clear hb
  rw [dT.out.1] at hx
  obtain ⟨A6, m6, p6, B6, k6, q6, rfl, sa6, sb6, _⟩ := hx
  rw [dT.out.2]
  dsimp only at sa6 sb6 ⊢
  have F6 : Blk (u6.alloc (.cells #[.int .u64 0, .int .u32 0, .int .u64 0, .int .u64 0, .slice none 0 0, .slice none 0 0] 26)) u6.heap.size 26 (csC 0 0 0 0 none 0 0 none 0 0) := Blk.new u6 26 _
  go_upto_region 11 with (with_reducible refine store_c rfl (.tmp 9) (.tmp 62) rfl u6.heap.size rfl rfl F6 ?_; rw [World.setRow_alloc_new])
  have K6 : Blk (u6.alloc (.cells (csC g1 e1 l1 v1 A6 m6 p6 B6 k6 q6) 26)) u6.heap.size 26 (csC g1 e1 l1 v1 A6 m6 p6 B6 k6 q6) := Blk.new _ _ _
  have hb := below1 u6 (.cells (csC g1 e1 l1 v1 A6 m6 p6 B6 k6 q6) 26)
  replace sa6 := sa6.later hb
  replace sb6 := sb6.later hb
  replace B := Wd.Ge.trans B hb
  clear hb
  clear F6
  generalize u6.alloc (.cells (csC g1 e1 l1 v1 A6 m6 p6 B6 k6 q6) 26) = y6 at *
  generalize u6.heap.size = b6 at *
  have HK := Lib.hid K6
  have R1 := Lib.hid (fun W hA hB => right_is g1 e1 l1 v1 A6 m6 p6 B6 k6 q6 o1 n1 true W hA hB (by rw [sa6.len]; have := L1.out; unfold maxLen; omega) hp1.out.1 hp1.out.2 ok1.out)
  have X1 := Lib.hid (fun W hA hB => encode_yes g1 e1 l1 v1 A6 m6 p6 B6 k6 q6 o1 n1 T W hA hB ft1.out ok1.out sec1.out)
  go_wp2_with (with_reducible refine load_c rfl (.tmp 9) rfl b6 rfl HK.out ?_)
  refine (X1.out _ sa6 sb6).mono ?_
  rintro e' w5 ⟨rfl, hb⟩
  replace K6 := K6.later hb
  replace sa6 := sa6.later hb
  replace sb6 := sb6.later hb
  replace B := Wd.Ge.trans B hb
  clear hb
  clear HK
  have hq := eq_self T
  obtain ⟨_, x0, x1, x2, x3, x4, x5⟩ := blk_lies K6
  go_wp2_with fail
  refine (R1.out _ sa6 sb6).mono ?_
  rintro e' w6 ⟨rfl, hb⟩
  clear x0 x1 x2 x3 x4 x5
  replace B := Wd.Ge.trans B hb
  clear hb
  go_wp2_with fail
  refine (fixed_any _).mono ?_
  rintro e' w7 ⟨rfl, hb⟩
  go_wp2_with fail
  go_ret
  exact ⟨rfl, Wd.Ge.trans B hb⟩


theorem walk (g0 e0 l0 v0 : Int) (A0 : Option Addr) (m0 p0 : Nat) (B0 : Option Addr) (k0 q0 : Nat) (o0 n0 : List Int) (s : ByteArray) (w : World) (hg0 : 0 ≤ g0 ∧ g0 < 18446744073709551616) (he0 : 0 ≤ e0 ∧ e0 < 4294967296) (hl0 : 0 ≤ l0 ∧ l0 < 18446744073709551616) (hv0 : 0 ≤ v0 ∧ v0 < 18446744073709551616) (sa0 : Sl w A0 m0 o0) (sb0 : Sl w B0 k0 n0) (hm0 : m0 ≤ maxLen ∧ k0 ≤ maxLen) (hp0 : m0 ≤ p0 ∧ k0 ≤ q0) (w1 : s.size ≤ maxLen) :
    Calls Try.prog 4 #[.agg #[.int .u64 g0, .int .u32 e0, .int .u64 l0, .int .u64 v0, .slice A0 m0 p0, .slice B0 k0 q0], .string s] w fun e' w' => e' = .returned (.bool true) ∧ Below w.heap.size w w' := by
  obtain ⟨T, ET⟩ : ∃ T, Hid (s.extract 0 (min (s.size : Int) 130).toNat = T) := ⟨_, rfl⟩
  have zT : T.size ≤ maxLen := by rw [← ET.out, ByteArray.size_extract]; unfold maxLen; omega
  have DT := Lib.hid (fun w => decode_any T w zT)
  have hsz : s.size ≤ 9223372036854775807 := by unfold maxLen at w1; omega
  have f0 : Fits (⟨g0, e0, l0, v0, o0.take 20, n0.take 20⟩ : Chk) := fitsA hg0 he0 hl0 hv0
  have RR := fun b (hb : okC (⟨g0, e0, l0, v0, o0.take 20, n0.take 20⟩ : Chk) = b) => Lib.hid (fun W (hW : Below w.heap.size w W) => right_is g0 e0 l0 v0 A0 (cut20 m0) p0 B0 (cut20 k0) q0 (o0.take 20) (n0.take 20) b W (sa0.cut.later hW) (sb0.cut.later hW) (cut20_le _) hg0.1 hl0.1 hb)
  obtain ⟨g1, e1, l1, v1, o1, n1, hc⟩ : ∃ g1 e1 l1 v1 o1 n1, cutC T.data.toList = ⟨g1, e1, l1, v1, o1, n1⟩ := ⟨_, _, _, _, _, _, rfl⟩
  have TYH : isSec T.data.toList = true → (decC T.data.toList = ⟨g1, e1, l1, v1, o1, n1⟩ ∧ decE T.data.toList = 0) ∧ o1.length ≤ 16 ∧ (0 ≤ g1 ∧ 0 ≤ l1) ∧ okC ⟨g1, e1, l1, v1, o1, n1⟩ = true ∧ Fits ⟨g1, e1, l1, v1, o1, n1⟩ ∧ secL ⟨g1, e1, l1, v1, o1, n1⟩ = T.data.toList := fun ht => by
    have hf := cutC_fits T.data.toList
    obtain ⟨h1, h2⟩ := (isSec_iff _).1 ht
    have h3 := okC_o h1
    rw [hc] at hf h1 h2 h3
    exact ⟨⟨by rw [(dec_yes ht).1, hc], (dec_yes ht).2⟩, h3.2.1, ⟨hf.g0, hf.l0⟩, h1, hf, h2⟩
  cases h : okC (⟨g0, e0, l0, v0, o0.take 20, n0.take 20⟩ : Chk) <;> cases ht : isSec T.data.toList
  · exact nn g0 e0 l0 v0 A0 m0 p0 B0 k0 q0 o0 n0 s w hg0 he0 hl0 hv0 sa0 sb0 hm0 hp0 T ET hsz DT (enc_no sa0.cut sb0.cut (cut20_le _) hg0.1 hl0.1 h) (RR _ h) (Lib.hid (dec_no ht))
  · obtain ⟨t1, t2, t3, t4, t5, t6⟩ := TYH ht
    exact ny g0 e0 l0 v0 A0 m0 p0 B0 k0 q0 o0 n0 s w hg0 he0 hl0 hv0 sa0 sb0 hm0 hp0 T ET hsz DT (enc_no sa0.cut sb0.cut (cut20_le _) hg0.1 hl0.1 h) (RR _ h) g1 e1 l1 v1 o1 n1 (Lib.hid t1) (Lib.hid t2) (Lib.hid t3) (Lib.hid t4) (Lib.hid t5) (Lib.hid t6)
  all_goals
    obtain ⟨S, HS⟩ : ∃ S : ByteArray, secL (⟨g0, e0, l0, v0, o0.take 20, n0.take 20⟩ : Chk) = S.data.toList := ⟨⟨(secL (⟨g0, e0, l0, v0, o0.take 20, n0.take 20⟩ : Chk)).toArray⟩, by simp⟩
    have zS : S.size ≤ maxLen := by rw [Go.Lib.size_eq, ← HS, secL_len h]; decide
    have D0 := Lib.hid (fun w => decode_any S w zS)
    have dS := Lib.hid (dec_sec f0 h HS)
    have E0 : Hid (EncAt w g0 e0 l0 v0 A0 (cut20 m0) p0 B0 (cut20 k0) q0 S 0) := enc_yes sa0.cut sb0.cut f0 h HS
  · exact yn g0 e0 l0 v0 A0 m0 p0 B0 k0 q0 o0 n0 s w hg0 he0 hl0 hv0 sa0 sb0 hm0 hp0 T ET hsz DT S E0 (RR _ h) D0 dS (Lib.hid (dec_no ht))
  · obtain ⟨t1, t2, t3, t4, t5, t6⟩ := TYH ht
    exact yy g0 e0 l0 v0 A0 m0 p0 B0 k0 q0 o0 n0 s w hg0 he0 hl0 hv0 sa0 sb0 hm0 hp0 T ET hsz DT S E0 (RR _ h) D0 dS g1 e1 l1 v1 o1 n1 (Lib.hid t1) (Lib.hid t2) (Lib.hid t3) (Lib.hid t4) (Lib.hid t5) (Lib.hid t6)

set_option maxRecDepth 100000 in
theorem lifted (os : Os) (started : os.Started) (H : Type) (enc : TypeId × Value → H) :
    ReturnsInHanded {} Try.checked os 4 .any (Rows.ckptBackSpec.pre6 enc Try.prog Try.f4 Rows.ckptBackRow.domain false) (Rows.ckptBackSpec.post enc Try.prog Try.f4 false true false false) := by
  refine returnsInHanded_of_change (C := Try.checked) own started (by kernel_rfl) Try.func4
    (ChangeSpec.witness6 (enc := enc) (C := Try.checked) false ⟨#[], #[.agg #[.int .u64 0, .int .u32 0, .int .u64 0, .int .u64 0, .slice none 0 0, .slice none 0 0], .string ByteArray.empty], []⟩ 8 (by kernel_rfl) (by kernel_rfl) (by kernel_rfl) (by kernel_rfl)) ?_
  intro W base args ds gs before hval0 hW hcnd _
  have hval : ∀ (j : Nat) t v, Try.f4.params[j]? = some t → args[j]? = some v → Value.okWide Try.prog W .any base t v := hval0
  have hW' := hW
  obtain ⟨p, q, hA0, hV, rfl, hfz, hnd⟩ := hW
  have hA : DataW.TrodAll enc Try.prog W 0 (fun _ => true) true Try.f4.params.toList args.toList ds p := hA0
  rw [Try.params4] at hA hval
  obtain ⟨v0, vs0, d0, ds0, p0, q0, hargs, rfl, rfl, h0, r0⟩ := trodAll_cons hA
  obtain ⟨v1, vs1, d1, ds1, p1, q1, rfl, rfl, rfl, h1, r1⟩ := trodAll_cons r0
  obtain ⟨rfl, rfl, rfl⟩ := trodAll_nil r1
  obtain rfl : args = #[v0, v1] := by cases args; simp_all
  obtain ⟨rfl, rfl⟩ := trodVars_none hV
  obtain ⟨g0, e0, l0, v0, A0, m0, p0, B0, k0, q0, o0, n0, rfl, hg0, he0, hl0, hv0, sa0, sb0, hm0, hp0⟩ := open_chk (hval 0 26 v0 rfl rfl) h0
  obtain ⟨a1, rfl, rfl, rfl, w1⟩ := open_string Try.underlying9 (hval 1 9 v1 rfl rfl) h1
  clear hA0 hval0
  try simp only [List.append_nil] at hW'
  try simp only [List.nil_append] at hW'
  have hlt := fun x hx => hW'.lt x hx
  refine (walk g0 e0 l0 v0 A0 m0 p0 B0 k0 q0 o0 n0 a1 W hg0 he0 hl0 hv0 sa0 sb0 hm0 hp0 w1).mono fun e W' ⟨he, hg⟩ => ?_
  subst he
  refine ⟨_, rfl, post_mem hW' (fun _ _ _ => (trodAll_cons_mk (shut_bool Try.underlying4 _) trodAll_mk0)) (fun sp hsp => ?_) (fun _ => rfl) hg (ok_one (by kernel_rfl) rfl (okWide_bool_mk Try.underlying4 _))⟩
  have hall := (trodAll_cons_mk (arg_same (sp := sp) laid (by kernel_rfl) (of_decide_eq_true (by kernel_rfl)) h0 hg (by intro x hx; simp_all) hlt hsp) (trodAll_cons_mk (arg_same (sp := sp) laid (by kernel_rfl) (of_decide_eq_true (by kernel_rfl)) h1 hg (by intro x hx; simp_all) hlt hsp) trodAll_mk0))
  try simp only [List.append_nil] at hall
  try simp only [List.nil_append] at hall
  exact hall

theorem over : Rows.ckptBackRow.holds Try.pinned (OpenSpec.ofChange Rows.ckptBackSpec) :=
  OpenClaim.holds_of_wide 4 Try.f4 rfl rfl rfl rfl rfl rfl rfl ⟨rfl, rfl, rfl, rfl, rfl⟩ rfl rfl rfl rfl rfl (by kernel_rfl) Try.func4 (by kernel_rfl)
    (of_decide_eq_true (by kernel_rfl)) (by unfold Func.isWrapper; first | (rw [if_pos (by decide +kernel)]; kernel_rfl) | (rw [if_neg (by decide +kernel)]; exact ⟨rfl, rfl⟩))
    (fun os started H enc _ => lifted os started H enc)

theorem proved : Rows.CkptBackSaid := over
#print axioms proved
end Go.Proofs.Ytdnkhjikfdalbaa.ckptBack
