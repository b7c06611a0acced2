/- For every two checkpoints the statement CkptSides about ckpt.Encode returns true, and changes nothing. Conditions: none. -/
import Derived.Test.YtdnkhjikfdalbaaCpP
import Derived.Test.YtdnkhjikfdalbaaCpO
import Derived.Deep.DeepCutAuto
import Derived.Deep.LoopGhost
import Derived.StillTailTactics
import Derived.WalkSmall
import Derived.ProofKit
import Derived.OpenShut
import Derived.ShutString
import Derived.SizedLaws
namespace Go.Proofs.Ytdnkhjikfdalbaa.ckptSides
open Go.ChangeShapes Go.WideShapes Go.ChangeAt Go.RowKit Go.Lib Wd Cr
open Go.ChangeMaps (open_string shut_string)
set_option linter.unusedVariables false

theorem own : ownKnob Try.prog.godebug = none := by kernel_rfl
theorem laid : laidOutB Try.prog = true := by kernel_rfl

set_option maxRecDepth 100000 in
set_option maxHeartbeats 8000000 in
theorem no0 (g0 e0 l0 v0 : Int) (A0 : Option Addr) (m0 p0 : Nat) (B0 : Option Addr) (k0 q0 : Nat) (o0 n0 : List Int) (g1 e1 l1 v1 : Int) (A1 : Option Addr) (m1 p1 : Nat) (B1 : Option Addr) (k1 q1 : Nat) (o1 n1 : List Int) (S0 S1 : ByteArray) (b : Bool) (w : World) (hg0 : 0 ≤ g0 ∧ g0 < 18446744073709551616) (he0 : 0 ≤ e0 ∧ e0 < 4294967296) (hl0 : 0 ≤ l0 ∧ l0 < 18446744073709551616) (hv0 : 0 ≤ v0 ∧ v0 < 18446744073709551616) (sa0 : Sl w A0 m0 o0) (sb0 : Sl w B0 k0 n0) (hm0 : m0 ≤ maxLen ∧ k0 ≤ maxLen) (hp0 : m0 ≤ p0 ∧ k0 ≤ q0) (hg1 : 0 ≤ g1 ∧ g1 < 18446744073709551616) (he1 : 0 ≤ e1 ∧ e1 < 4294967296) (hl1 : 0 ≤ l1 ∧ l1 < 18446744073709551616) (hv1 : 0 ≤ v1 ∧ v1 < 18446744073709551616) (sa1 : Sl w A1 m1 o1) (sb1 : Sl w B1 k1 n1) (hm1 : m1 ≤ maxLen ∧ k1 ≤ maxLen) (hp1 : m1 ≤ p1 ∧ k1 ≤ q1) (SM : Hid (∀ W, Below w.heap.size w W → Calls Try.prog 19 #[.agg #[.int .u64 g0, .int .u32 e0, .int .u64 l0, .int .u64 v0, .slice A0 (cut20 m0) p0, .slice B0 (cut20 k0) q0], .agg #[.int .u64 g1, .int .u32 e1, .int .u64 l1, .int .u64 v1, .slice A1 (cut20 m1) p1, .slice B1 (cut20 k1) q1]] W fun e' w' => e' = .returned (.bool b) ∧ Below W.heap.size W w')) (E0 : Hid (EncAt w g0 e0 l0 v0 A0 (cut20 m0) p0 B0 (cut20 k0) q0 S0 5)) (y : Int) (E1 : Hid (EncAt w g1 e1 l1 v1 A1 (cut20 m1) p1 B1 (cut20 k1) q1 S1 y)) :
    Calls Try.prog 8 #[.agg #[.int .u64 g0, .int .u32 e0, .int .u64 l0, .int .u64 v0, .slice A0 m0 p0, .slice B0 k0 q0], .agg #[.int .u64 g1, .int .u32 e1, .int .u64 l1, .int .u64 v1, .slice A1 m1 p1, .slice B1 k1 q1]] w fun e' w' => e' = .returned (.bool true) ∧ Below w.heap.size w w' := by
  have B := below1 w (.cells #[.int .u64 g0, .int .u32 e0, .int .u64 l0, .int .u64 v0, .slice A0 m0 p0, .slice B0 k0 q0] 26)
  have K0 : Blk (w.alloc (.cells #[.int .u64 g0, .int .u32 e0, .int .u64 l0, .int .u64 v0, .slice A0 m0 p0, .slice B0 k0 q0] 26)) (w.heap.size) 26 (csC g0 e0 l0 v0 A0 m0 p0 B0 k0 q0) := blk_new w 26 (csC g0 e0 l0 v0 A0 m0 p0 B0 k0 q0) (w.heap.size) (by simp)
  have hb := below1 (w.alloc (.cells #[.int .u64 g0, .int .u32 e0, .int .u64 l0, .int .u64 v0, .slice A0 m0 p0, .slice B0 k0 q0] 26)) (.cells #[.int .u64 g1, .int .u32 e1, .int .u64 l1, .int .u64 v1, .slice A1 m1 p1, .slice B1 k1 q1] 26)
  replace K0 := K0.later hb
  replace B := Wd.Ge.trans B hb
  clear hb
  have K1 : Blk ((w.alloc (.cells #[.int .u64 g0, .int .u32 e0, .int .u64 l0, .int .u64 v0, .slice A0 m0 p0, .slice B0 k0 q0] 26)).alloc (.cells #[.int .u64 g1, .int .u32 e1, .int .u64 l1, .int .u64 v1, .slice A1 m1 p1, .slice B1 k1 q1] 26)) (w.heap.size + 1) 26 (csC g1 e1 l1 v1 A1 m1 p1 B1 k1 q1) := blk_new (w.alloc (.cells #[.int .u64 g0, .int .u32 e0, .int .u64 l0, .int .u64 v0, .slice A0 m0 p0, .slice B0 k0 q0] 26)) 26 (csC g1 e1 l1 v1 A1 m1 p1 B1 k1 q1) (w.heap.size + 1) (by simp)
  have C0 := Lib.hid (fun w => lawcut_any g0 e0 l0 v0 A0 m0 p0 B0 k0 q0 w hm0.1 hm0.2 hp0.1 hp0.2)
  have C1 := Lib.hid (fun w => lawcut_any g1 e1 l1 v1 A1 m1 p1 B1 k1 q1 w hm1.1 hm1.2 hp1.1 hp1.2)
  obtain ⟨wa, EW⟩ : ∃ wa, Hid (((w.alloc (.cells #[.int .u64 g0, .int .u32 e0, .int .u64 l0, .int .u64 v0, .slice A0 m0 p0, .slice B0 k0 q0] 26)).alloc (.cells #[.int .u64 g1, .int .u32 e1, .int .u64 l1, .int .u64 v1, .slice A1 m1 p1, .slice B1 k1 q1] 26)) = wa) := ⟨_, rfl⟩
  rw [EW.out] at B K0 K1
  go_enter Try.func8, Try.ntmps8
  go_upto_region 1 with fail
  rw [EW.out]
  clear EW
  generalize cut20 m0 = c0 at *
  generalize cut20 k0 = d0 at *
  generalize cut20 m1 = c1 at *
  generalize cut20 k1 = d1 at *
  have HK := Lib.hid K0
  go_wp2_with (with_reducible refine load_c rfl (.tmp 2) rfl (w.heap.size) rfl HK.out ?_)
  refine (C0.out _).mono ?_
  rintro e' u0 ⟨rfl, hb⟩
  replace K0 := K0.later hb
  replace K1 := K1.later hb
  replace B := Wd.Ge.trans B hb
  clear hb
  clear HK
  have HK := Lib.hid K0
  go_upto_region 2 with (with_reducible refine store_c rfl (.tmp 2) (.tmp 10) rfl (w.heap.size) rfl rfl HK.out ?_)
  replace K1 := K1.far (g' := w.heap.size) (by omega) (csC g0 e0 l0 v0 A0 c0 p0 B0 d0 q0)
  replace K0 := K0.row (csC g0 e0 l0 v0 A0 c0 p0 B0 d0 q0)
  replace B := below_set B (show w.heap.size ≤ w.heap.size by omega) (csC g0 e0 l0 v0 A0 c0 p0 B0 d0 q0)
  generalize u0.setRow (w.heap.size) (csC g0 e0 l0 v0 A0 c0 p0 B0 d0 q0) = z0 at *
  clear HK C0
  have HK := Lib.hid K1
  go_wp2_with (with_reducible refine load_c rfl (.tmp 3) rfl (w.heap.size + 1) rfl HK.out ?_)
  refine (C1.out _).mono ?_
  rintro e' u1 ⟨rfl, hb⟩
  replace K0 := K0.later hb
  replace K1 := K1.later hb
  replace B := Wd.Ge.trans B hb
  clear hb
  clear HK
  have HK := Lib.hid K1
  go_upto_region 3 with (with_reducible refine store_c rfl (.tmp 3) (.tmp 12) rfl (w.heap.size + 1) rfl rfl HK.out ?_)
  replace K0 := K0.far (g' := w.heap.size + 1) (by omega) (csC g1 e1 l1 v1 A1 c1 p1 B1 d1 q1)
  replace K1 := K1.row (csC g1 e1 l1 v1 A1 c1 p1 B1 d1 q1)
  replace B := below_set B (show w.heap.size ≤ w.heap.size + 1 by omega) (csC g1 e1 l1 v1 A1 c1 p1 B1 d1 q1)
  generalize u1.setRow (w.heap.size + 1) (csC g1 e1 l1 v1 A1 c1 p1 B1 d1 q1) = z1 at *
  clear HK C1
  have HK := Lib.hid K0
  go_wp2_with (with_reducible refine load_c rfl (.tmp 2) rfl (w.heap.size) rfl HK.out ?_)
  refine (E0.out _ B).mono ?_
  rintro e' w1 ⟨rfl, hb⟩
  replace K0 := K0.later hb
  replace K1 := K1.later hb
  replace B := Wd.Ge.trans B hb
  clear hb
  clear HK
  have HK := Lib.hid K1
  go_wp2_with (with_reducible refine load_c rfl (.tmp 3) rfl (w.heap.size + 1) rfl HK.out ?_)
  refine (E1.out _ B).mono ?_
  rintro e' w2 ⟨rfl, hb⟩
  replace K0 := K0.later hb
  replace K1 := K1.later hb
  replace B := Wd.Ge.trans B hb
  clear hb
  clear HK E0 E1
  go_wp2_with fail
  have h2 : Its w [(w.heap.size, csC g0 e0 l0 v0 A0 c0 p0 B0 d0 q0), (w.heap.size + 1, csC g1 e1 l1 v1 A1 c1 p1 B1 d1 q1)] [] w2 := ((Its.nil B).cons K1).cons K0
  clear B K0 K1
  have hne : Nonempty (In (Its w [(w.heap.size, csC g0 e0 l0 v0 A0 c0 p0 B0 d0 q0), (w.heap.size + 1, csC g1 e1 l1 v1 A1 c1 p1 B1 d1 q1)] [])) := ⟨⟨_, h2⟩⟩
  have fa0 : ∀ j : In (Its w [(w.heap.size, csC g0 e0 l0 v0 A0 c0 p0 B0 d0 q0), (w.heap.size + 1, csC g1 e1 l1 v1 A1 c1 p1 B1 d1 q1)] []), j.W.cell? ⟨w.heap.size, 0, none⟩ = some (.int .u64 g0) := fun j => (j.h.at_ 0 rfl).cell 0
  have fa1 : ∀ j : In (Its w [(w.heap.size, csC g0 e0 l0 v0 A0 c0 p0 B0 d0 q0), (w.heap.size + 1, csC g1 e1 l1 v1 A1 c1 p1 B1 d1 q1)] []), j.W.cell? ⟨w.heap.size, 1, none⟩ = some (.int .u32 e0) := fun j => (j.h.at_ 0 rfl).cell 1
  have fa2 : ∀ j : In (Its w [(w.heap.size, csC g0 e0 l0 v0 A0 c0 p0 B0 d0 q0), (w.heap.size + 1, csC g1 e1 l1 v1 A1 c1 p1 B1 d1 q1)] []), j.W.cell? ⟨w.heap.size, 2, none⟩ = some (.int .u64 l0) := fun j => (j.h.at_ 0 rfl).cell 2
  have fa3 : ∀ j : In (Its w [(w.heap.size, csC g0 e0 l0 v0 A0 c0 p0 B0 d0 q0), (w.heap.size + 1, csC g1 e1 l1 v1 A1 c1 p1 B1 d1 q1)] []), j.W.cell? ⟨w.heap.size, 3, none⟩ = some (.int .u64 v0) := fun j => (j.h.at_ 0 rfl).cell 3
  have fa4 : ∀ j : In (Its w [(w.heap.size, csC g0 e0 l0 v0 A0 c0 p0 B0 d0 q0), (w.heap.size + 1, csC g1 e1 l1 v1 A1 c1 p1 B1 d1 q1)] []), j.W.cell? ⟨w.heap.size, 4, none⟩ = some (.slice A0 c0 p0) := fun j => (j.h.at_ 0 rfl).cell 4
  have fa5 : ∀ j : In (Its w [(w.heap.size, csC g0 e0 l0 v0 A0 c0 p0 B0 d0 q0), (w.heap.size + 1, csC g1 e1 l1 v1 A1 c1 p1 B1 d1 q1)] []), j.W.cell? ⟨w.heap.size, 5, none⟩ = some (.slice B0 d0 q0) := fun j => (j.h.at_ 0 rfl).cell 5
  have fb0 : ∀ j : In (Its w [(w.heap.size, csC g0 e0 l0 v0 A0 c0 p0 B0 d0 q0), (w.heap.size + 1, csC g1 e1 l1 v1 A1 c1 p1 B1 d1 q1)] []), j.W.cell? ⟨w.heap.size + 1, 0, none⟩ = some (.int .u64 g1) := fun j => (j.h.at_ 1 rfl).cell 0
  have fb1 : ∀ j : In (Its w [(w.heap.size, csC g0 e0 l0 v0 A0 c0 p0 B0 d0 q0), (w.heap.size + 1, csC g1 e1 l1 v1 A1 c1 p1 B1 d1 q1)] []), j.W.cell? ⟨w.heap.size + 1, 1, none⟩ = some (.int .u32 e1) := fun j => (j.h.at_ 1 rfl).cell 1
  have fb2 : ∀ j : In (Its w [(w.heap.size, csC g0 e0 l0 v0 A0 c0 p0 B0 d0 q0), (w.heap.size + 1, csC g1 e1 l1 v1 A1 c1 p1 B1 d1 q1)] []), j.W.cell? ⟨w.heap.size + 1, 2, none⟩ = some (.int .u64 l1) := fun j => (j.h.at_ 1 rfl).cell 2
  have fb3 : ∀ j : In (Its w [(w.heap.size, csC g0 e0 l0 v0 A0 c0 p0 B0 d0 q0), (w.heap.size + 1, csC g1 e1 l1 v1 A1 c1 p1 B1 d1 q1)] []), j.W.cell? ⟨w.heap.size + 1, 3, none⟩ = some (.int .u64 v1) := fun j => (j.h.at_ 1 rfl).cell 3
  have fb4 : ∀ j : In (Its w [(w.heap.size, csC g0 e0 l0 v0 A0 c0 p0 B0 d0 q0), (w.heap.size + 1, csC g1 e1 l1 v1 A1 c1 p1 B1 d1 q1)] []), j.W.cell? ⟨w.heap.size + 1, 4, none⟩ = some (.slice A1 c1 p1) := fun j => (j.h.at_ 1 rfl).cell 4
  have fb5 : ∀ j : In (Its w [(w.heap.size, csC g0 e0 l0 v0 A0 c0 p0 B0 d0 q0), (w.heap.size + 1, csC g1 e1 l1 v1 A1 c1 p1 B1 d1 q1)] []), j.W.cell? ⟨w.heap.size + 1, 5, none⟩ = some (.slice B1 d1 q1) := fun j => (j.h.at_ 1 rfl).cell 5
  refine region_class (Its w [(w.heap.size, csC g0 e0 l0 v0 A0 c0 p0 B0 d0 q0), (w.heap.size + 1, csC g1 e1 l1 v1 A1 c1 p1 B1 d1 q1)] []) (by kernel_rfl) (by kernel_rfl) h2.drawn ?_
  repeat (go_big_quiet_step (first
    | (go_at_call 12; with_reducible exact class_call _ (fun hi => its_ge hi (ref_any g0 e0 l0 v0 A0 c0 p0 B0 d0 q0 _)))
    | (go_at_call 12; with_reducible exact class_call _ (fun hi => its_ge hi (ref_any g1 e1 l1 v1 A1 c1 p1 B1 d1 q1 _)))
    | (go_at_call 19; with_reducible exact class_call _ (fun hi => its_ge hi (SM.out _ hi.b)))
    | (go_at_call 20; with_reducible exact class_call _ (fun hi => its_ge hi (fixed_any _)))))
  refine wpQuiet_nil ?_
  rintro _ ⟨j, rfl⟩
  go_wp2_with fail
  go_ret
  exact ⟨rfl, j.h.b⟩

set_option maxRecDepth 100000 in
set_option maxHeartbeats 8000000 in
theorem no1 (g0 e0 l0 v0 : Int) (A0 : Option Addr) (m0 p0 : Nat) (B0 : Option Addr) (k0 q0 : Nat) (o0 n0 : List Int) (g1 e1 l1 v1 : Int) (A1 : Option Addr) (m1 p1 : Nat) (B1 : Option Addr) (k1 q1 : Nat) (o1 n1 : List Int) (S0 S1 : ByteArray) (b : Bool) (w : World) (hg0 : 0 ≤ g0 ∧ g0 < 18446744073709551616) (he0 : 0 ≤ e0 ∧ e0 < 4294967296) (hl0 : 0 ≤ l0 ∧ l0 < 18446744073709551616) (hv0 : 0 ≤ v0 ∧ v0 < 18446744073709551616) (sa0 : Sl w A0 m0 o0) (sb0 : Sl w B0 k0 n0) (hm0 : m0 ≤ maxLen ∧ k0 ≤ maxLen) (hp0 : m0 ≤ p0 ∧ k0 ≤ q0) (hg1 : 0 ≤ g1 ∧ g1 < 18446744073709551616) (he1 : 0 ≤ e1 ∧ e1 < 4294967296) (hl1 : 0 ≤ l1 ∧ l1 < 18446744073709551616) (hv1 : 0 ≤ v1 ∧ v1 < 18446744073709551616) (sa1 : Sl w A1 m1 o1) (sb1 : Sl w B1 k1 n1) (hm1 : m1 ≤ maxLen ∧ k1 ≤ maxLen) (hp1 : m1 ≤ p1 ∧ k1 ≤ q1) (SM : Hid (∀ W, Below w.heap.size w W → Calls Try.prog 19 #[.agg #[.int .u64 g0, .int .u32 e0, .int .u64 l0, .int .u64 v0, .slice A0 (cut20 m0) p0, .slice B0 (cut20 k0) q0], .agg #[.int .u64 g1, .int .u32 e1, .int .u64 l1, .int .u64 v1, .slice A1 (cut20 m1) p1, .slice B1 (cut20 k1) q1]] W fun e' w' => e' = .returned (.bool b) ∧ Below W.heap.size W w')) (E0 : Hid (EncAt w g0 e0 l0 v0 A0 (cut20 m0) p0 B0 (cut20 k0) q0 S0 0)) (E1 : Hid (EncAt w g1 e1 l1 v1 A1 (cut20 m1) p1 B1 (cut20 k1) q1 S1 5)) :
    Calls Try.prog 8 #[.agg #[.int .u64 g0, .int .u32 e0, .int .u64 l0, .int .u64 v0, .slice A0 m0 p0, .slice B0 k0 q0], .agg #[.int .u64 g1, .int .u32 e1, .int .u64 l1, .int .u64 v1, .slice A1 m1 p1, .slice B1 k1 q1]] w fun e' w' => e' = .returned (.bool true) ∧ Below w.heap.size w w' := by
  have B := below1 w (.cells #[.int .u64 g0, .int .u32 e0, .int .u64 l0, .int .u64 v0, .slice A0 m0 p0, .slice B0 k0 q0] 26)
  have K0 : Blk (w.alloc (.cells #[.int .u64 g0, .int .u32 e0, .int .u64 l0, .int .u64 v0, .slice A0 m0 p0, .slice B0 k0 q0] 26)) (w.heap.size) 26 (csC g0 e0 l0 v0 A0 m0 p0 B0 k0 q0) := blk_new w 26 (csC g0 e0 l0 v0 A0 m0 p0 B0 k0 q0) (w.heap.size) (by simp)
  have hb := below1 (w.alloc (.cells #[.int .u64 g0, .int .u32 e0, .int .u64 l0, .int .u64 v0, .slice A0 m0 p0, .slice B0 k0 q0] 26)) (.cells #[.int .u64 g1, .int .u32 e1, .int .u64 l1, .int .u64 v1, .slice A1 m1 p1, .slice B1 k1 q1] 26)
  replace K0 := K0.later hb
  replace B := Wd.Ge.trans B hb
  clear hb
  have K1 : Blk ((w.alloc (.cells #[.int .u64 g0, .int .u32 e0, .int .u64 l0, .int .u64 v0, .slice A0 m0 p0, .slice B0 k0 q0] 26)).alloc (.cells #[.int .u64 g1, .int .u32 e1, .int .u64 l1, .int .u64 v1, .slice A1 m1 p1, .slice B1 k1 q1] 26)) (w.heap.size + 1) 26 (csC g1 e1 l1 v1 A1 m1 p1 B1 k1 q1) := blk_new (w.alloc (.cells #[.int .u64 g0, .int .u32 e0, .int .u64 l0, .int .u64 v0, .slice A0 m0 p0, .slice B0 k0 q0] 26)) 26 (csC g1 e1 l1 v1 A1 m1 p1 B1 k1 q1) (w.heap.size + 1) (by simp)
  have C0 := Lib.hid (fun w => lawcut_any g0 e0 l0 v0 A0 m0 p0 B0 k0 q0 w hm0.1 hm0.2 hp0.1 hp0.2)
  have C1 := Lib.hid (fun w => lawcut_any g1 e1 l1 v1 A1 m1 p1 B1 k1 q1 w hm1.1 hm1.2 hp1.1 hp1.2)
  obtain ⟨wa, EW⟩ : ∃ wa, Hid (((w.alloc (.cells #[.int .u64 g0, .int .u32 e0, .int .u64 l0, .int .u64 v0, .slice A0 m0 p0, .slice B0 k0 q0] 26)).alloc (.cells #[.int .u64 g1, .int .u32 e1, .int .u64 l1, .int .u64 v1, .slice A1 m1 p1, .slice B1 k1 q1] 26)) = wa) := ⟨_, rfl⟩
  rw [EW.out] at B K0 K1
  go_enter Try.func8, Try.ntmps8
  go_upto_region 1 with fail
  rw [EW.out]
  clear EW
  generalize cut20 m0 = c0 at *
  generalize cut20 k0 = d0 at *
  generalize cut20 m1 = c1 at *
  generalize cut20 k1 = d1 at *
  have HK := Lib.hid K0
  go_wp2_with (with_reducible refine load_c rfl (.tmp 2) rfl (w.heap.size) rfl HK.out ?_)
  refine (C0.out _).mono ?_
  rintro e' u0 ⟨rfl, hb⟩
  replace K0 := K0.later hb
  replace K1 := K1.later hb
  replace B := Wd.Ge.trans B hb
  clear hb
  clear HK
  have HK := Lib.hid K0
  go_upto_region 2 with (with_reducible refine store_c rfl (.tmp 2) (.tmp 10) rfl (w.heap.size) rfl rfl HK.out ?_)
  replace K1 := K1.far (g' := w.heap.size) (by omega) (csC g0 e0 l0 v0 A0 c0 p0 B0 d0 q0)
  replace K0 := K0.row (csC g0 e0 l0 v0 A0 c0 p0 B0 d0 q0)
  replace B := below_set B (show w.heap.size ≤ w.heap.size by omega) (csC g0 e0 l0 v0 A0 c0 p0 B0 d0 q0)
  generalize u0.setRow (w.heap.size) (csC g0 e0 l0 v0 A0 c0 p0 B0 d0 q0) = z0 at *
  clear HK C0
  have HK := Lib.hid K1
  go_wp2_with (with_reducible refine load_c rfl (.tmp 3) rfl (w.heap.size + 1) rfl HK.out ?_)
  refine (C1.out _).mono ?_
  rintro e' u1 ⟨rfl, hb⟩
  replace K0 := K0.later hb
  replace K1 := K1.later hb
  replace B := Wd.Ge.trans B hb
  clear hb
  clear HK
  have HK := Lib.hid K1
  go_upto_region 3 with (with_reducible refine store_c rfl (.tmp 3) (.tmp 12) rfl (w.heap.size + 1) rfl rfl HK.out ?_)
  replace K0 := K0.far (g' := w.heap.size + 1) (by omega) (csC g1 e1 l1 v1 A1 c1 p1 B1 d1 q1)
  replace K1 := K1.row (csC g1 e1 l1 v1 A1 c1 p1 B1 d1 q1)
  replace B := below_set B (show w.heap.size ≤ w.heap.size + 1 by omega) (csC g1 e1 l1 v1 A1 c1 p1 B1 d1 q1)
  generalize u1.setRow (w.heap.size + 1) (csC g1 e1 l1 v1 A1 c1 p1 B1 d1 q1) = z1 at *
  clear HK C1
  have HK := Lib.hid K0
  go_wp2_with (with_reducible refine load_c rfl (.tmp 2) rfl (w.heap.size) rfl HK.out ?_)
  refine (E0.out _ B).mono ?_
  rintro e' w1 ⟨rfl, hb⟩
  replace K0 := K0.later hb
  replace K1 := K1.later hb
  replace B := Wd.Ge.trans B hb
  clear hb
  clear HK
  have HK := Lib.hid K1
  go_wp2_with (with_reducible refine load_c rfl (.tmp 3) rfl (w.heap.size + 1) rfl HK.out ?_)
  refine (E1.out _ B).mono ?_
  rintro e' w2 ⟨rfl, hb⟩
  replace K0 := K0.later hb
  replace K1 := K1.later hb
  replace B := Wd.Ge.trans B hb
  clear hb
  clear HK E0 E1
  go_wp2_with fail
  have h2 : Its w [(w.heap.size, csC g0 e0 l0 v0 A0 c0 p0 B0 d0 q0), (w.heap.size + 1, csC g1 e1 l1 v1 A1 c1 p1 B1 d1 q1)] [] w2 := ((Its.nil B).cons K1).cons K0
  clear B K0 K1
  have hne : Nonempty (In (Its w [(w.heap.size, csC g0 e0 l0 v0 A0 c0 p0 B0 d0 q0), (w.heap.size + 1, csC g1 e1 l1 v1 A1 c1 p1 B1 d1 q1)] [])) := ⟨⟨_, h2⟩⟩
  have fa0 : ∀ j : In (Its w [(w.heap.size, csC g0 e0 l0 v0 A0 c0 p0 B0 d0 q0), (w.heap.size + 1, csC g1 e1 l1 v1 A1 c1 p1 B1 d1 q1)] []), j.W.cell? ⟨w.heap.size, 0, none⟩ = some (.int .u64 g0) := fun j => (j.h.at_ 0 rfl).cell 0
  have fa1 : ∀ j : In (Its w [(w.heap.size, csC g0 e0 l0 v0 A0 c0 p0 B0 d0 q0), (w.heap.size + 1, csC g1 e1 l1 v1 A1 c1 p1 B1 d1 q1)] []), j.W.cell? ⟨w.heap.size, 1, none⟩ = some (.int .u32 e0) := fun j => (j.h.at_ 0 rfl).cell 1
  have fa2 : ∀ j : In (Its w [(w.heap.size, csC g0 e0 l0 v0 A0 c0 p0 B0 d0 q0), (w.heap.size + 1, csC g1 e1 l1 v1 A1 c1 p1 B1 d1 q1)] []), j.W.cell? ⟨w.heap.size, 2, none⟩ = some (.int .u64 l0) := fun j => (j.h.at_ 0 rfl).cell 2
  have fa3 : ∀ j : In (Its w [(w.heap.size, csC g0 e0 l0 v0 A0 c0 p0 B0 d0 q0), (w.heap.size + 1, csC g1 e1 l1 v1 A1 c1 p1 B1 d1 q1)] []), j.W.cell? ⟨w.heap.size, 3, none⟩ = some (.int .u64 v0) := fun j => (j.h.at_ 0 rfl).cell 3
  have fa4 : ∀ j : In (Its w [(w.heap.size, csC g0 e0 l0 v0 A0 c0 p0 B0 d0 q0), (w.heap.size + 1, csC g1 e1 l1 v1 A1 c1 p1 B1 d1 q1)] []), j.W.cell? ⟨w.heap.size, 4, none⟩ = some (.slice A0 c0 p0) := fun j => (j.h.at_ 0 rfl).cell 4
  have fa5 : ∀ j : In (Its w [(w.heap.size, csC g0 e0 l0 v0 A0 c0 p0 B0 d0 q0), (w.heap.size + 1, csC g1 e1 l1 v1 A1 c1 p1 B1 d1 q1)] []), j.W.cell? ⟨w.heap.size, 5, none⟩ = some (.slice B0 d0 q0) := fun j => (j.h.at_ 0 rfl).cell 5
  have fb0 : ∀ j : In (Its w [(w.heap.size, csC g0 e0 l0 v0 A0 c0 p0 B0 d0 q0), (w.heap.size + 1, csC g1 e1 l1 v1 A1 c1 p1 B1 d1 q1)] []), j.W.cell? ⟨w.heap.size + 1, 0, none⟩ = some (.int .u64 g1) := fun j => (j.h.at_ 1 rfl).cell 0
  have fb1 : ∀ j : In (Its w [(w.heap.size, csC g0 e0 l0 v0 A0 c0 p0 B0 d0 q0), (w.heap.size + 1, csC g1 e1 l1 v1 A1 c1 p1 B1 d1 q1)] []), j.W.cell? ⟨w.heap.size + 1, 1, none⟩ = some (.int .u32 e1) := fun j => (j.h.at_ 1 rfl).cell 1
  have fb2 : ∀ j : In (Its w [(w.heap.size, csC g0 e0 l0 v0 A0 c0 p0 B0 d0 q0), (w.heap.size + 1, csC g1 e1 l1 v1 A1 c1 p1 B1 d1 q1)] []), j.W.cell? ⟨w.heap.size + 1, 2, none⟩ = some (.int .u64 l1) := fun j => (j.h.at_ 1 rfl).cell 2
  have fb3 : ∀ j : In (Its w [(w.heap.size, csC g0 e0 l0 v0 A0 c0 p0 B0 d0 q0), (w.heap.size + 1, csC g1 e1 l1 v1 A1 c1 p1 B1 d1 q1)] []), j.W.cell? ⟨w.heap.size + 1, 3, none⟩ = some (.int .u64 v1) := fun j => (j.h.at_ 1 rfl).cell 3
  have fb4 : ∀ j : In (Its w [(w.heap.size, csC g0 e0 l0 v0 A0 c0 p0 B0 d0 q0), (w.heap.size + 1, csC g1 e1 l1 v1 A1 c1 p1 B1 d1 q1)] []), j.W.cell? ⟨w.heap.size + 1, 4, none⟩ = some (.slice A1 c1 p1) := fun j => (j.h.at_ 1 rfl).cell 4
  have fb5 : ∀ j : In (Its w [(w.heap.size, csC g0 e0 l0 v0 A0 c0 p0 B0 d0 q0), (w.heap.size + 1, csC g1 e1 l1 v1 A1 c1 p1 B1 d1 q1)] []), j.W.cell? ⟨w.heap.size + 1, 5, none⟩ = some (.slice B1 d1 q1) := fun j => (j.h.at_ 1 rfl).cell 5
  refine region_class (Its w [(w.heap.size, csC g0 e0 l0 v0 A0 c0 p0 B0 d0 q0), (w.heap.size + 1, csC g1 e1 l1 v1 A1 c1 p1 B1 d1 q1)] []) (by kernel_rfl) (by kernel_rfl) h2.drawn ?_
  repeat (go_big_quiet_step (first
    | (go_at_call 12; with_reducible exact class_call _ (fun hi => its_ge hi (ref_any g0 e0 l0 v0 A0 c0 p0 B0 d0 q0 _)))
    | (go_at_call 12; with_reducible exact class_call _ (fun hi => its_ge hi (ref_any g1 e1 l1 v1 A1 c1 p1 B1 d1 q1 _)))
    | (go_at_call 19; with_reducible exact class_call _ (fun hi => its_ge hi (SM.out _ hi.b)))
    | (go_at_call 20; with_reducible exact class_call _ (fun hi => its_ge hi (fixed_any _)))))
  refine wpQuiet_nil ?_
  rintro _ ⟨j, rfl⟩
  go_wp2_with fail
  go_ret
  exact ⟨rfl, j.h.b⟩

set_option maxRecDepth 100000 in
set_option maxHeartbeats 8000000 in
theorem both (g0 e0 l0 v0 : Int) (A0 : Option Addr) (m0 p0 : Nat) (B0 : Option Addr) (k0 q0 : Nat) (o0 n0 : List Int) (g1 e1 l1 v1 : Int) (A1 : Option Addr) (m1 p1 : Nat) (B1 : Option Addr) (k1 q1 : Nat) (o1 n1 : List Int) (S0 S1 : ByteArray) (b : Bool) (w : World) (hg0 : 0 ≤ g0 ∧ g0 < 18446744073709551616) (he0 : 0 ≤ e0 ∧ e0 < 4294967296) (hl0 : 0 ≤ l0 ∧ l0 < 18446744073709551616) (hv0 : 0 ≤ v0 ∧ v0 < 18446744073709551616) (sa0 : Sl w A0 m0 o0) (sb0 : Sl w B0 k0 n0) (hm0 : m0 ≤ maxLen ∧ k0 ≤ maxLen) (hp0 : m0 ≤ p0 ∧ k0 ≤ q0) (hg1 : 0 ≤ g1 ∧ g1 < 18446744073709551616) (he1 : 0 ≤ e1 ∧ e1 < 4294967296) (hl1 : 0 ≤ l1 ∧ l1 < 18446744073709551616) (hv1 : 0 ≤ v1 ∧ v1 < 18446744073709551616) (sa1 : Sl w A1 m1 o1) (sb1 : Sl w B1 k1 n1) (hm1 : m1 ≤ maxLen ∧ k1 ≤ maxLen) (hp1 : m1 ≤ p1 ∧ k1 ≤ q1) (SM : Hid (∀ W, Below w.heap.size w W → Calls Try.prog 19 #[.agg #[.int .u64 g0, .int .u32 e0, .int .u64 l0, .int .u64 v0, .slice A0 (cut20 m0) p0, .slice B0 (cut20 k0) q0], .agg #[.int .u64 g1, .int .u32 e1, .int .u64 l1, .int .u64 v1, .slice A1 (cut20 m1) p1, .slice B1 (cut20 k1) q1]] W fun e' w' => e' = .returned (.bool b) ∧ Below W.heap.size W w')) (E0 : Hid (EncAt w g0 e0 l0 v0 A0 (cut20 m0) p0 B0 (cut20 k0) q0 S0 0)) (E1 : Hid (EncAt w g1 e1 l1 v1 A1 (cut20 m1) p1 B1 (cut20 k1) q1 S1 0)) (hS : (S0.toList == S1.toList) = b) :
    Calls Try.prog 8 #[.agg #[.int .u64 g0, .int .u32 e0, .int .u64 l0, .int .u64 v0, .slice A0 m0 p0, .slice B0 k0 q0], .agg #[.int .u64 g1, .int .u32 e1, .int .u64 l1, .int .u64 v1, .slice A1 m1 p1, .slice B1 k1 q1]] w fun e' w' => e' = .returned (.bool true) ∧ Below w.heap.size w w' := by
  have B := below1 w (.cells #[.int .u64 g0, .int .u32 e0, .int .u64 l0, .int .u64 v0, .slice A0 m0 p0, .slice B0 k0 q0] 26)
  have K0 : Blk (w.alloc (.cells #[.int .u64 g0, .int .u32 e0, .int .u64 l0, .int .u64 v0, .slice A0 m0 p0, .slice B0 k0 q0] 26)) (w.heap.size) 26 (csC g0 e0 l0 v0 A0 m0 p0 B0 k0 q0) := blk_new w 26 (csC g0 e0 l0 v0 A0 m0 p0 B0 k0 q0) (w.heap.size) (by simp)
  have hb := below1 (w.alloc (.cells #[.int .u64 g0, .int .u32 e0, .int .u64 l0, .int .u64 v0, .slice A0 m0 p0, .slice B0 k0 q0] 26)) (.cells #[.int .u64 g1, .int .u32 e1, .int .u64 l1, .int .u64 v1, .slice A1 m1 p1, .slice B1 k1 q1] 26)
  replace K0 := K0.later hb
  replace B := Wd.Ge.trans B hb
  clear hb
  have K1 : Blk ((w.alloc (.cells #[.int .u64 g0, .int .u32 e0, .int .u64 l0, .int .u64 v0, .slice A0 m0 p0, .slice B0 k0 q0] 26)).alloc (.cells #[.int .u64 g1, .int .u32 e1, .int .u64 l1, .int .u64 v1, .slice A1 m1 p1, .slice B1 k1 q1] 26)) (w.heap.size + 1) 26 (csC g1 e1 l1 v1 A1 m1 p1 B1 k1 q1) := blk_new (w.alloc (.cells #[.int .u64 g0, .int .u32 e0, .int .u64 l0, .int .u64 v0, .slice A0 m0 p0, .slice B0 k0 q0] 26)) 26 (csC g1 e1 l1 v1 A1 m1 p1 B1 k1 q1) (w.heap.size + 1) (by simp)
  have C0 := Lib.hid (fun w => lawcut_any g0 e0 l0 v0 A0 m0 p0 B0 k0 q0 w hm0.1 hm0.2 hp0.1 hp0.2)
  have C1 := Lib.hid (fun w => lawcut_any g1 e1 l1 v1 A1 m1 p1 B1 k1 q1 w hm1.1 hm1.2 hp1.1 hp1.2)
  obtain ⟨wa, EW⟩ : ∃ wa, Hid (((w.alloc (.cells #[.int .u64 g0, .int .u32 e0, .int .u64 l0, .int .u64 v0, .slice A0 m0 p0, .slice B0 k0 q0] 26)).alloc (.cells #[.int .u64 g1, .int .u32 e1, .int .u64 l1, .int .u64 v1, .slice A1 m1 p1, .slice B1 k1 q1] 26)) = wa) := ⟨_, rfl⟩
  rw [EW.out] at B K0 K1
  go_enter Try.func8, Try.ntmps8
  go_upto_region 1 with fail
  rw [EW.out]
  clear EW
  generalize cut20 m0 = c0 at *
  generalize cut20 k0 = d0 at *
  generalize cut20 m1 = c1 at *
  generalize cut20 k1 = d1 at *
  have HK := Lib.hid K0
  go_wp2_with (with_reducible refine load_c rfl (.tmp 2) rfl (w.heap.size) rfl HK.out ?_)
  refine (C0.out _).mono ?_
  rintro e' u0 ⟨rfl, hb⟩
  replace K0 := K0.later hb
  replace K1 := K1.later hb
  replace B := Wd.Ge.trans B hb
  clear hb
  clear HK
  have HK := Lib.hid K0
  go_upto_region 2 with (with_reducible refine store_c rfl (.tmp 2) (.tmp 10) rfl (w.heap.size) rfl rfl HK.out ?_)
  replace K1 := K1.far (g' := w.heap.size) (by omega) (csC g0 e0 l0 v0 A0 c0 p0 B0 d0 q0)
  replace K0 := K0.row (csC g0 e0 l0 v0 A0 c0 p0 B0 d0 q0)
  replace B := below_set B (show w.heap.size ≤ w.heap.size by omega) (csC g0 e0 l0 v0 A0 c0 p0 B0 d0 q0)
  generalize u0.setRow (w.heap.size) (csC g0 e0 l0 v0 A0 c0 p0 B0 d0 q0) = z0 at *
  clear HK C0
  have HK := Lib.hid K1
  go_wp2_with (with_reducible refine load_c rfl (.tmp 3) rfl (w.heap.size + 1) rfl HK.out ?_)
  refine (C1.out _).mono ?_
  rintro e' u1 ⟨rfl, hb⟩
  replace K0 := K0.later hb
  replace K1 := K1.later hb
  replace B := Wd.Ge.trans B hb
  clear hb
  clear HK
  have HK := Lib.hid K1
  go_upto_region 3 with (with_reducible refine store_c rfl (.tmp 3) (.tmp 12) rfl (w.heap.size + 1) rfl rfl HK.out ?_)
  replace K0 := K0.far (g' := w.heap.size + 1) (by omega) (csC g1 e1 l1 v1 A1 c1 p1 B1 d1 q1)
  replace K1 := K1.row (csC g1 e1 l1 v1 A1 c1 p1 B1 d1 q1)
  replace B := below_set B (show w.heap.size ≤ w.heap.size + 1 by omega) (csC g1 e1 l1 v1 A1 c1 p1 B1 d1 q1)
  generalize u1.setRow (w.heap.size + 1) (csC g1 e1 l1 v1 A1 c1 p1 B1 d1 q1) = z1 at *
  clear HK C1
  have HK := Lib.hid K0
  go_wp2_with (with_reducible refine load_c rfl (.tmp 2) rfl (w.heap.size) rfl HK.out ?_)
  refine (E0.out _ B).mono ?_
  rintro e' w1 ⟨rfl, hb⟩
  replace K0 := K0.later hb
  replace K1 := K1.later hb
  replace B := Wd.Ge.trans B hb
  clear hb
  clear HK
  have HK := Lib.hid K1
  go_wp2_with (with_reducible refine load_c rfl (.tmp 3) rfl (w.heap.size + 1) rfl HK.out ?_)
  refine (E1.out _ B).mono ?_
  rintro e' w2 ⟨rfl, hb⟩
  replace K0 := K0.later hb
  replace K1 := K1.later hb
  replace B := Wd.Ge.trans B hb
  clear hb
  clear HK E0 E1
  go_wp2_with fail
  have h2 : Its w [(w.heap.size, csC g0 e0 l0 v0 A0 c0 p0 B0 d0 q0), (w.heap.size + 1, csC g1 e1 l1 v1 A1 c1 p1 B1 d1 q1)] [] w2 := ((Its.nil B).cons K1).cons K0
  clear B K0 K1
  have hne : Nonempty (In (Its w [(w.heap.size, csC g0 e0 l0 v0 A0 c0 p0 B0 d0 q0), (w.heap.size + 1, csC g1 e1 l1 v1 A1 c1 p1 B1 d1 q1)] [])) := ⟨⟨_, h2⟩⟩
  have fa0 : ∀ j : In (Its w [(w.heap.size, csC g0 e0 l0 v0 A0 c0 p0 B0 d0 q0), (w.heap.size + 1, csC g1 e1 l1 v1 A1 c1 p1 B1 d1 q1)] []), j.W.cell? ⟨w.heap.size, 0, none⟩ = some (.int .u64 g0) := fun j => (j.h.at_ 0 rfl).cell 0
  have fa1 : ∀ j : In (Its w [(w.heap.size, csC g0 e0 l0 v0 A0 c0 p0 B0 d0 q0), (w.heap.size + 1, csC g1 e1 l1 v1 A1 c1 p1 B1 d1 q1)] []), j.W.cell? ⟨w.heap.size, 1, none⟩ = some (.int .u32 e0) := fun j => (j.h.at_ 0 rfl).cell 1
  have fa2 : ∀ j : In (Its w [(w.heap.size, csC g0 e0 l0 v0 A0 c0 p0 B0 d0 q0), (w.heap.size + 1, csC g1 e1 l1 v1 A1 c1 p1 B1 d1 q1)] []), j.W.cell? ⟨w.heap.size, 2, none⟩ = some (.int .u64 l0) := fun j => (j.h.at_ 0 rfl).cell 2
  have fa3 : ∀ j : In (Its w [(w.heap.size, csC g0 e0 l0 v0 A0 c0 p0 B0 d0 q0), (w.heap.size + 1, csC g1 e1 l1 v1 A1 c1 p1 B1 d1 q1)] []), j.W.cell? ⟨w.heap.size, 3, none⟩ = some (.int .u64 v0) := fun j => (j.h.at_ 0 rfl).cell 3
  have fa4 : ∀ j : In (Its w [(w.heap.size, csC g0 e0 l0 v0 A0 c0 p0 B0 d0 q0), (w.heap.size + 1, csC g1 e1 l1 v1 A1 c1 p1 B1 d1 q1)] []), j.W.cell? ⟨w.heap.size, 4, none⟩ = some (.slice A0 c0 p0) := fun j => (j.h.at_ 0 rfl).cell 4
  have fa5 : ∀ j : In (Its w [(w.heap.size, csC g0 e0 l0 v0 A0 c0 p0 B0 d0 q0), (w.heap.size + 1, csC g1 e1 l1 v1 A1 c1 p1 B1 d1 q1)] []), j.W.cell? ⟨w.heap.size, 5, none⟩ = some (.slice B0 d0 q0) := fun j => (j.h.at_ 0 rfl).cell 5
  have fb0 : ∀ j : In (Its w [(w.heap.size, csC g0 e0 l0 v0 A0 c0 p0 B0 d0 q0), (w.heap.size + 1, csC g1 e1 l1 v1 A1 c1 p1 B1 d1 q1)] []), j.W.cell? ⟨w.heap.size + 1, 0, none⟩ = some (.int .u64 g1) := fun j => (j.h.at_ 1 rfl).cell 0
  have fb1 : ∀ j : In (Its w [(w.heap.size, csC g0 e0 l0 v0 A0 c0 p0 B0 d0 q0), (w.heap.size + 1, csC g1 e1 l1 v1 A1 c1 p1 B1 d1 q1)] []), j.W.cell? ⟨w.heap.size + 1, 1, none⟩ = some (.int .u32 e1) := fun j => (j.h.at_ 1 rfl).cell 1
  have fb2 : ∀ j : In (Its w [(w.heap.size, csC g0 e0 l0 v0 A0 c0 p0 B0 d0 q0), (w.heap.size + 1, csC g1 e1 l1 v1 A1 c1 p1 B1 d1 q1)] []), j.W.cell? ⟨w.heap.size + 1, 2, none⟩ = some (.int .u64 l1) := fun j => (j.h.at_ 1 rfl).cell 2
  have fb3 : ∀ j : In (Its w [(w.heap.size, csC g0 e0 l0 v0 A0 c0 p0 B0 d0 q0), (w.heap.size + 1, csC g1 e1 l1 v1 A1 c1 p1 B1 d1 q1)] []), j.W.cell? ⟨w.heap.size + 1, 3, none⟩ = some (.int .u64 v1) := fun j => (j.h.at_ 1 rfl).cell 3
  have fb4 : ∀ j : In (Its w [(w.heap.size, csC g0 e0 l0 v0 A0 c0 p0 B0 d0 q0), (w.heap.size + 1, csC g1 e1 l1 v1 A1 c1 p1 B1 d1 q1)] []), j.W.cell? ⟨w.heap.size + 1, 4, none⟩ = some (.slice A1 c1 p1) := fun j => (j.h.at_ 1 rfl).cell 4
  have fb5 : ∀ j : In (Its w [(w.heap.size, csC g0 e0 l0 v0 A0 c0 p0 B0 d0 q0), (w.heap.size + 1, csC g1 e1 l1 v1 A1 c1 p1 B1 d1 q1)] []), j.W.cell? ⟨w.heap.size + 1, 5, none⟩ = some (.slice B1 d1 q1) := fun j => (j.h.at_ 1 rfl).cell 5
  refine region_class (Its w [(w.heap.size, csC g0 e0 l0 v0 A0 c0 p0 B0 d0 q0), (w.heap.size + 1, csC g1 e1 l1 v1 A1 c1 p1 B1 d1 q1)] []) (by kernel_rfl) (by kernel_rfl) h2.drawn ?_
  repeat (go_big_quiet_step (first
    | (go_at_call 12; with_reducible exact class_call _ (fun hi => its_ge hi (ref_any g0 e0 l0 v0 A0 c0 p0 B0 d0 q0 _)))
    | (go_at_call 12; with_reducible exact class_call _ (fun hi => its_ge hi (ref_any g1 e1 l1 v1 A1 c1 p1 B1 d1 q1 _)))
    | (go_at_call 19; with_reducible exact class_call _ (fun hi => its_ge hi (SM.out _ hi.b)))
    | (go_at_call 20; with_reducible exact class_call _ (fun hi => its_ge hi (fixed_any _)))))
  refine wpQuiet_nil ?_
  rintro _ ⟨j, rfl⟩
  go_wp2_with fail
  go_ret
  exact ⟨rfl, j.h.b⟩


theorem walk (g0 e0 l0 v0 : Int) (A0 : Option Addr) (m0 p0 : Nat) (B0 : Option Addr) (k0 q0 : Nat) (o0 n0 : List Int) (g1 e1 l1 v1 : Int) (A1 : Option Addr) (m1 p1 : Nat) (B1 : Option Addr) (k1 q1 : Nat) (o1 n1 : List Int) (w : World) (hg0 : 0 ≤ g0 ∧ g0 < 18446744073709551616) (he0 : 0 ≤ e0 ∧ e0 < 4294967296) (hl0 : 0 ≤ l0 ∧ l0 < 18446744073709551616) (hv0 : 0 ≤ v0 ∧ v0 < 18446744073709551616) (sa0 : Sl w A0 m0 o0) (sb0 : Sl w B0 k0 n0) (hm0 : m0 ≤ maxLen ∧ k0 ≤ maxLen) (hp0 : m0 ≤ p0 ∧ k0 ≤ q0) (hg1 : 0 ≤ g1 ∧ g1 < 18446744073709551616) (he1 : 0 ≤ e1 ∧ e1 < 4294967296) (hl1 : 0 ≤ l1 ∧ l1 < 18446744073709551616) (hv1 : 0 ≤ v1 ∧ v1 < 18446744073709551616) (sa1 : Sl w A1 m1 o1) (sb1 : Sl w B1 k1 n1) (hm1 : m1 ≤ maxLen ∧ k1 ≤ maxLen) (hp1 : m1 ≤ p1 ∧ k1 ≤ q1) :
    Calls Try.prog 8 #[.agg #[.int .u64 g0, .int .u32 e0, .int .u64 l0, .int .u64 v0, .slice A0 m0 p0, .slice B0 k0 q0], .agg #[.int .u64 g1, .int .u32 e1, .int .u64 l1, .int .u64 v1, .slice A1 m1 p1, .slice B1 k1 q1]] w fun e' w' => e' = .returned (.bool true) ∧ Below w.heap.size w w' := by
  have f0 : Fits (⟨g0, e0, l0, v0, o0.take 20, n0.take 20⟩ : Chk) := fitsA hg0 he0 hl0 hv0
  have f1 : Fits (⟨g1, e1, l1, v1, o1.take 20, n1.take 20⟩ : Chk) := fitsA hg1 he1 hl1 hv1
  have SM := Lib.hid (fun W (hW : Below w.heap.size w W) => same_is g0 e0 l0 v0 A0 (cut20 m0) p0 B0 (cut20 k0) q0 g1 e1 l1 v1 A1 (cut20 m1) p1 B1 (cut20 k1) q1 (o0.take 20) (n0.take 20) (o1.take 20) (n1.take 20) _ W (sa0.cut.later hW) (sb0.cut.later hW) (sa1.cut.later hW) (sb1.cut.later hW) (cut20_le _) (cut20_le _) rfl)
  cases h0 : okC (⟨g0, e0, l0, v0, o0.take 20, n0.take 20⟩ : Chk)
  · cases h1 : okC (⟨g1, e1, l1, v1, o1.take 20, n1.take 20⟩ : Chk)
    · exact no0 g0 e0 l0 v0 A0 m0 p0 B0 k0 q0 o0 n0 g1 e1 l1 v1 A1 m1 p1 B1 k1 q1 o1 n1 _ _ _ w hg0 he0 hl0 hv0 sa0 sb0 hm0 hp0 hg1 he1 hl1 hv1 sa1 sb1 hm1 hp1 SM (enc_no sa0.cut sb0.cut (cut20_le _) hg0.1 hl0.1 h0) _ (enc_no sa1.cut sb1.cut (cut20_le _) hg1.1 hl1.1 h1)
    · exact no0 g0 e0 l0 v0 A0 m0 p0 B0 k0 q0 o0 n0 g1 e1 l1 v1 A1 m1 p1 B1 k1 q1 o1 n1 _ ⟨(secL (⟨g1, e1, l1, v1, o1.take 20, n1.take 20⟩ : Chk)).toArray⟩ _ w hg0 he0 hl0 hv0 sa0 sb0 hm0 hp0 hg1 he1 hl1 hv1 sa1 sb1 hm1 hp1 SM (enc_no sa0.cut sb0.cut (cut20_le _) hg0.1 hl0.1 h0) _ (enc_yes sa1.cut sb1.cut f1 h1 (by simp))
  cases h1 : okC (⟨g1, e1, l1, v1, o1.take 20, n1.take 20⟩ : Chk)
  · exact no1 g0 e0 l0 v0 A0 m0 p0 B0 k0 q0 o0 n0 g1 e1 l1 v1 A1 m1 p1 B1 k1 q1 o1 n1 ⟨(secL (⟨g0, e0, l0, v0, o0.take 20, n0.take 20⟩ : Chk)).toArray⟩ _ _ w hg0 he0 hl0 hv0 sa0 sb0 hm0 hp0 hg1 he1 hl1 hv1 sa1 sb1 hm1 hp1 SM (enc_yes sa0.cut sb0.cut f0 h0 (by simp)) (enc_no sa1.cut sb1.cut (cut20_le _) hg1.1 hl1.1 h1)
  · exact both g0 e0 l0 v0 A0 m0 p0 B0 k0 q0 o0 n0 g1 e1 l1 v1 A1 m1 p1 B1 k1 q1 o1 n1 ⟨(secL (⟨g0, e0, l0, v0, o0.take 20, n0.take 20⟩ : Chk)).toArray⟩ ⟨(secL (⟨g1, e1, l1, v1, o1.take 20, n1.take 20⟩ : Chk)).toArray⟩ _ w hg0 he0 hl0 hv0 sa0 sb0 hm0 hp0 hg1 he1 hl1 hv1 sa1 sb1 hm1 hp1 SM (enc_yes sa0.cut sb0.cut f0 h0 (by simp)) (enc_yes sa1.cut sb1.cut f1 h1 (by simp)) (secs_eq f0 h0 f1 h1 (by simp) (by simp))

set_option maxRecDepth 100000 in
theorem lifted (os : Os) (started : os.Started) (H : Type) (enc : TypeId × Value → H) :
    ReturnsInHanded {} Try.checked os 8 .any (Rows.ckptSidesSpec.pre6 enc Try.prog Try.f8 Rows.ckptSidesRow.domain false) (Rows.ckptSidesSpec.post enc Try.prog Try.f8 false true false false) := by
  refine returnsInHanded_of_change (C := Try.checked) own started (by kernel_rfl) Try.func8
    (ChangeSpec.witness6 (enc := enc) (C := Try.checked) false ⟨#[], #[.agg #[.int .u64 0, .int .u32 0, .int .u64 0, .int .u64 0, .slice none 0 0, .slice none 0 0], .agg #[.int .u64 0, .int .u32 0, .int .u64 0, .int .u64 0, .slice none 0 0, .slice none 0 0]], []⟩ 8 (by kernel_rfl) (by kernel_rfl) (by kernel_rfl) (by kernel_rfl)) ?_
  intro W base args ds gs before hval0 hW hcnd _
  have hval : ∀ (j : Nat) t v, Try.f8.params[j]? = some t → args[j]? = some v → Value.okWide Try.prog W .any base t v := hval0
  have hW' := hW
  obtain ⟨p, q, hA0, hV, rfl, hfz, hnd⟩ := hW
  have hA : DataW.TrodAll enc Try.prog W 0 (fun _ => true) true Try.f8.params.toList args.toList ds p := hA0
  rw [Try.params8] at hA hval
  obtain ⟨v0, vs0, d0, ds0, p0, q0, hargs, rfl, rfl, h0, r0⟩ := trodAll_cons hA
  obtain ⟨v1, vs1, d1, ds1, p1, q1, rfl, rfl, rfl, h1, r1⟩ := trodAll_cons r0
  obtain ⟨rfl, rfl, rfl⟩ := trodAll_nil r1
  obtain rfl : args = #[v0, v1] := by cases args; simp_all
  obtain ⟨rfl, rfl⟩ := trodVars_none hV
  obtain ⟨g0, e0, l0, v0, A0, m0, p0, B0, k0, q0, o0, n0, rfl, hg0, he0, hl0, hv0, sa0, sb0, hm0, hp0⟩ := open_chk (hval 0 26 v0 rfl rfl) h0
  obtain ⟨g1, e1, l1, v1, A1, m1, p1, B1, k1, q1, o1, n1, rfl, hg1, he1, hl1, hv1, sa1, sb1, hm1, hp1⟩ := open_chk (hval 1 26 v1 rfl rfl) h1
  clear hA0 hval0
  try simp only [List.append_nil] at hW'
  try simp only [List.nil_append] at hW'
  have hlt := fun x hx => hW'.lt x hx
  refine (walk g0 e0 l0 v0 A0 m0 p0 B0 k0 q0 o0 n0 g1 e1 l1 v1 A1 m1 p1 B1 k1 q1 o1 n1 W hg0 he0 hl0 hv0 sa0 sb0 hm0 hp0 hg1 he1 hl1 hv1 sa1 sb1 hm1 hp1).mono fun e W' ⟨he, hg⟩ => ?_
  subst he
  refine ⟨_, rfl, post_mem hW' (fun _ _ _ => (trodAll_cons_mk (shut_bool Try.underlying4 _) trodAll_mk0)) (fun sp hsp => ?_) (fun _ => rfl) hg (ok_one (by kernel_rfl) rfl (okWide_bool_mk Try.underlying4 _))⟩
  have hall := (trodAll_cons_mk (arg_same (sp := sp) laid (by kernel_rfl) (of_decide_eq_true (by kernel_rfl)) h0 hg (by intro x hx; simp_all) hlt hsp) (trodAll_cons_mk (arg_same (sp := sp) laid (by kernel_rfl) (of_decide_eq_true (by kernel_rfl)) h1 hg (by intro x hx; simp_all) hlt hsp) trodAll_mk0))
  try simp only [List.append_nil] at hall
  try simp only [List.nil_append] at hall
  exact hall

theorem over : Rows.ckptSidesRow.holds Try.pinned (OpenSpec.ofChange Rows.ckptSidesSpec) :=
  OpenClaim.holds_of_wide 8 Try.f8 rfl rfl rfl rfl rfl rfl rfl ⟨rfl, rfl, rfl, rfl, rfl⟩ rfl rfl rfl rfl rfl (by kernel_rfl) Try.func8 (by kernel_rfl)
    (of_decide_eq_true (by kernel_rfl)) (by unfold Func.isWrapper; first | (rw [if_pos (by decide +kernel)]; kernel_rfl) | (rw [if_neg (by decide +kernel)]; exact ⟨rfl, rfl⟩))
    (fun os started H enc _ => lifted os started H enc)

theorem proved : Rows.CkptSidesSaid := over
#print axioms proved
end Go.Proofs.Ytdnkhjikfdalbaa.ckptSides
