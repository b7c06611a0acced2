/- For every record, every text and every place the statement RecordTells about record.Right, Encode, Decode and Next returns true, and changes nothing. Conditions: none. -/
import Derived.Test.YtgpcfdkblkkpeaaRecY
import Derived.Test.YtgpcfdkblkkpeaaRecO
import Derived.Deep.DeepCutAuto
import Derived.Deep.LoopGhost
import Derived.StillTailTactics
import Derived.WalkSmall
import Derived.Test.YtgpcfdkblkkpeaaClass
import Derived.Deep.QuietTactic
import Derived.BigQuiet
import Derived.ProofKit
import Derived.OpenShut
import Derived.ShutString
import Derived.SizedLaws
namespace Go.Proofs.Ytgpcfdkblkkpeaa.recordTells
open Go.ChangeShapes Go.WideShapes Go.ChangeAt Go.RowKit Go.Lib Wd Cr Ck
open Go.ChangeMaps (open_string shut_string)
set_option linter.unusedVariables false

theorem own : ownKnob Try.prog.godebug = none := by kernel_rfl
theorem laid : laidOutB Try.prog = true := by kernel_rfl

/-- A place lies at block B. -/
structure LiesP (W : World) (B : Nat) (l e : Int) : Prop where
  lt : B < W.heap.size
  c0 : W.cell? ⟨B, 0, none⟩ = some (.int .u64 l)
  c1 : W.cell? ⟨B, 1, none⟩ = some (.int .u32 e)
theorem LiesP.later {W w : World} {B : Nat} {l e : Int} (h : LiesP W B l e) (hb : Below W.heap.size W w) : LiesP w B l e :=
  ⟨Nat.lt_of_lt_of_le h.lt hb.size, ((bcell hb).1 _ _ h.lt).trans h.c0, ((bcell hb).1 _ _ h.lt).trans h.c1⟩
theorem liesP_set {W : World} {B : Nat} {l e : Int} (h : LiesP W B l e) (b o : Nat) (u : Value) (hb : b ≠ B) : LiesP (W.setCell ⟨b, o, none⟩ u) B l e := by
  refine ⟨by rw [size_setCell]; exact h.lt, ?_, ?_⟩ <;> rw [World.cell?_setCell_other _ _ _ _ (ne_b hb)]
  · exact h.c0
  · exact h.c1
theorem layP (l e : Int) (t : TypeId) (w : World) : LiesP (w.alloc (.cells #[.int .u64 l, .int .u32 e] t)) w.heap.size l e := by
  refine ⟨by simp, ?_, ?_⟩ <;> simp [World.cell?_alloc_at]

structure InvW (w : World) (b11 b13 b15 b17 : Nat) (l0 e0 k0 v0 d0 : Int) (i0 a0 : ByteArray) (l4 e4 k4 v4 d4 : Int) (i4 a4 : ByteArray) (l5 e5 k5 v5 d5 : Int) (i5 a5 : ByteArray) (W : World) : Prop where
  b : Below w.heap.size w W
  r : LiesR W w.heap.size l0 e0 k0 v0 d0 i0 a0
  x : LiesR W b11 l4 e4 k4 v4 d4 i4 a4
  y : LiesR W b13 l4 e4 k4 v4 d4 i4 a4
  p : LiesR W b15 l5 e5 k5 v5 d5 i5 a5
  q : LiesR W b17 l5 e5 k5 v5 d5 i5 a5
section
variable {w W : World} {b11 b13 b15 b17 : Nat} {l0 e0 k0 v0 d0 : Int} {i0 a0 : ByteArray} {l4 e4 k4 v4 d4 : Int} {i4 a4 : ByteArray} {l5 e5 k5 v5 d5 : Int} {i5 a5 : ByteArray}
theorem dr {B : Nat} {l e k v d : Int} {i a : ByteArray} (h : LiesR W B l e k v d i a) : LiesR { W with drawn := W.drawn + 1 } B l e k v d i a := ⟨h.lt, h.c0, h.c1, h.c2, h.c3, h.c4, h.c5, h.c6⟩
theorem InvW.drawn (h : InvW w b11 b13 b15 b17 l0 e0 k0 v0 d0 i0 a0 l4 e4 k4 v4 d4 i4 a4 l5 e5 k5 v5 d5 i5 a5 W) : InvW w b11 b13 b15 b17 l0 e0 k0 v0 d0 i0 a0 l4 e4 k4 v4 d4 i4 a4 l5 e5 k5 v5 d5 i5 a5 { W with drawn := W.drawn + 1 } :=
  ⟨⟨h.b.os, h.b.tape, h.b.output, h.b.size, h.b.block⟩, dr h.r, dr h.x, dr h.y, dr h.p, dr h.q⟩
theorem invW_ge {P : Program} {f : FuncId} {args : Array Value} {u : Value} (h : InvW w b11 b13 b15 b17 l0 e0 k0 v0 d0 i0 a0 l4 e4 k4 v4 d4 i4 a4 l5 e5 k5 v5 d5 i5 a5 W) (c : Calls P f args W fun e' w' => e' = .returned u ∧ Below W.heap.size W w') :
    Calls P f args W fun e' w' => e' = .returned u ∧ InvW w b11 b13 b15 b17 l0 e0 k0 v0 d0 i0 a0 l4 e4 k4 v4 d4 i4 a4 l5 e5 k5 v5 d5 i5 a5 w' :=
  c.mono fun _ _ ⟨he, hb⟩ => ⟨he, Wd.Ge.trans h.b hb, h.r.later hb, h.x.later hb, h.y.later hb, h.p.later hb, h.q.later hb⟩
end

set_option maxRecDepth 100000 in
set_option maxHeartbeats 16000000 in
theorem main (l0 e0 k0 v0 d0 : Int) (i0 a0 : ByteArray) (s : ByteArray) (l2 e2 : Int) (w : World) (hl0 : 0 ≤ l0 ∧ l0 < 18446744073709551616) (he0 : 0 ≤ e0 ∧ e0 < 4294967296) (hk0 : -9223372036854775808 ≤ k0 ∧ k0 ≤ 9223372036854775807) (hv0 : 0 ≤ v0 ∧ v0 < 18446744073709551616) (hd0 : 0 ≤ d0 ∧ d0 < 18446744073709551616) (hi0 : i0.size ≤ maxLen) (ha0 : a0.size ≤ maxLen) (hs : s.size ≤ maxLen) (T : ByteArray) (ET : Hid (s.extract 0 (min (s.size : Int) 130).toNat = T)) (zT : T.size ≤ 130) (SA : ByteArray) (z1 : Int) (E1 : Hid (∀ w, Calls Try.prog 10 #[.agg #[.int .u64 l0, .int .u32 e0, .int .i64 k0, .int .u64 v0, .int .u64 d0, .string (cut80 i0), .string (cut80 a0)]] w fun e' w' => e' = .returned (.tuple #[.string SA, .int .i64 z1]) ∧ Below w.heap.size w w')) (E2 : Hid (∀ w, Calls Try.prog 11 #[.agg #[.int .u64 l0, .int .u32 e0, .int .i64 k0, .int .u64 v0, .int .u64 d0, .string (cut80 i0), .string (cut80 a0)]] w fun e' w' => e' = .returned (.tuple #[.string SA, .int .i64 z1]) ∧ Below w.heap.size w w')) (z2 : Int) (l4 e4 k4 v4 d4 : Int) (i4 a4 : ByteArray) (E3 : Hid (∀ w, Calls Try.prog 13 #[.string T] w fun e' w' => e' = .returned (.tuple #[.agg #[.int .u64 l4, .int .u32 e4, .int .i64 k4, .int .u64 v4, .int .u64 d4, .string i4, .string a4], .int .i64 z2]) ∧ Below w.heap.size w w')) (E4 : Hid (∀ w, Calls Try.prog 14 #[.string T] w fun e' w' => e' = .returned (.tuple #[.agg #[.int .u64 l4, .int .u32 e4, .int .i64 k4, .int .u64 v4, .int .u64 d4, .string i4, .string a4], .int .i64 z2]) ∧ Below w.heap.size w w')) (o : Bool) (l5 e5 k5 v5 d5 : Int) (i5 a5 : ByteArray) (E5 : Hid (∀ w, Calls Try.prog 15 #[.string T, .int .u64 l2, .int .u32 e2] w fun e' w' => e' = .returned (.tuple #[.agg #[.int .u64 l5, .int .u32 e5, .int .i64 k5, .int .u64 v5, .int .u64 d5, .string i5, .string a5], .bool o]) ∧ Below w.heap.size w w')) (E6 : Hid (∀ w, Calls Try.prog 16 #[.string T, .int .u64 l2, .int .u32 e2] w fun e' w' => e' = .returned (.tuple #[.agg #[.int .u64 l5, .int .u32 e5, .int .i64 k5, .int .u64 v5, .int .u64 d5, .string i5, .string a5], .bool o]) ∧ Below w.heap.size w w')) (Bo : Bool) (E7 : Hid (∀ w, Calls Try.prog 17 #[.agg #[.int .u64 l0, .int .u32 e0, .int .i64 k0, .int .u64 v0, .int .u64 d0, .string (cut80 i0), .string (cut80 a0)]] w fun e' w' => e' = .returned (.bool Bo) ∧ Below w.heap.size w w')) (E8 : Hid (∀ w, Calls Try.prog 18 #[.agg #[.int .u64 l0, .int .u32 e0, .int .i64 k0, .int .u64 v0, .int .u64 d0, .string (cut80 i0), .string (cut80 a0)]] w fun e' w' => e' = .returned (.bool Bo) ∧ Below w.heap.size w w')) :
    Calls Try.prog 3 #[.agg #[.int .u64 l0, .int .u32 e0, .int .i64 k0, .int .u64 v0, .int .u64 d0, .string i0, .string a0], .string s, .agg #[.int .u64 l2, .int .u32 e2]] w fun e' w' => e' = .returned (.bool true) ∧ Below w.heap.size w w' := by
  unfold maxLen at hs
  have C0 := Lib.hid (fun w => lawcut_any l0 e0 k0 v0 d0 i0 a0 w hi0 ha0)
  generalize cut80 i0 = x0 at *
  generalize cut80 a0 = y0 at *
  have G0 := layF l0 e0 k0 v0 d0 i0 a0 25 w
  have B := below1 w (.cells #[.int .u64 l0, .int .u32 e0, .int .i64 k0, .int .u64 v0, .int .u64 d0, .string i0, .string a0] 25)
  have GP := layP l2 e2 27 (w.alloc (.cells #[.int .u64 l0, .int .u32 e0, .int .i64 k0, .int .u64 v0, .int .u64 d0, .string i0, .string a0] 25))
  rw [show (w.alloc (.cells #[.int .u64 l0, .int .u32 e0, .int .i64 k0, .int .u64 v0, .int .u64 d0, .string i0, .string a0] 25)).heap.size = w.heap.size + 1 by simp] at GP
  have hb := below1 (w.alloc (.cells #[.int .u64 l0, .int .u32 e0, .int .i64 k0, .int .u64 v0, .int .u64 d0, .string i0, .string a0] 25)) (.cells #[.int .u64 l2, .int .u32 e2] 27)
  replace G0 := G0.later hb
  replace B := Wd.Ge.trans B hb
  clear hb
  clear hi0 ha0
  go_enter Try.func3, Try.ntmps3
  go_wp2_with fail
  refine (C0.out _).mono ?_
  rintro e' w1 ⟨rfl, hb⟩
  replace G0 := G0.later hb
  replace GP := GP.later hb
  replace B := Wd.Ge.trans B hb
  clear hb
  obtain ⟨cg, c0, c1, c2, c3, c4, c5, c6⟩ := G0.L
  have z0 := G0.F 0 (by omega)
  have z1 := G0.F 1 (by omega)
  have z2 := G0.F 2 (by omega)
  have z3 := G0.F 3 (by omega)
  have z4 := G0.F 4 (by omega)
  have z5 := G0.F 5 (by omega)
  have z6 := G0.F 6 (by omega)
  go_upto_region 2 with fail
  clear c0 c1 c2 c3 c4 c5 c6 cg
  clear z0 z1 z2 z3 z4 z5 z6
  replace GP := liesP_set (liesP_set (liesP_set (liesP_set (liesP_set (liesP_set (liesP_set GP w.heap.size 0 (.int .u64 l0) (by omega)) w.heap.size 1 (.int .u32 e0) (by omega)) w.heap.size 2 (.int .i64 k0) (by omega)) w.heap.size 3 (.int .u64 v0) (by omega)) w.heap.size 4 (.int .u64 d0) (by omega)) w.heap.size 5 (.string x0) (by omega)) w.heap.size 6 (.string y0) (by omega)
  replace G0 := G0.put (l := l0) (e := e0) (k := k0) (v := v0) (d := d0) (i := x0) (a := y0)
  replace B := below7 l0 e0 k0 v0 d0 x0 y0 B (Nat.le_refl w.heap.size)
  generalize (((((((w1.setCell ⟨w.heap.size, 0, none⟩ (.int .u64 l0)).setCell ⟨w.heap.size, 1, none⟩ (.int .u32 e0)).setCell ⟨w.heap.size, 2, none⟩ (.int .i64 k0)).setCell ⟨w.heap.size, 3, none⟩ (.int .u64 v0)).setCell ⟨w.heap.size, 4, none⟩ (.int .u64 d0)).setCell ⟨w.heap.size, 5, none⟩ (.string x0)).setCell ⟨w.heap.size, 6, none⟩ (.string y0)) = w2 at *
  clear C0
  go_upto_region 3 with fail
  rw [ET.out]
  obtain ⟨cg, c0, c1, c2, c3, c4, c5, c6⟩ := G0.L
  go_wp2_with fail
  refine (E1.out _).mono ?_
  rintro e' w3 ⟨rfl, hb⟩
  clear c0 c1 c2 c3 c4 c5 c6 cg
  replace G0 := G0.later hb
  replace GP := GP.later hb
  replace B := Wd.Ge.trans B hb
  clear hb
  obtain ⟨cg, c0, c1, c2, c3, c4, c5, c6⟩ := G0.L
  go_wp2_with fail
  refine (ref_any l0 e0 k0 v0 d0 x0 y0 _).mono ?_
  rintro e' w4 ⟨rfl, hb⟩
  clear c0 c1 c2 c3 c4 c5 c6 cg
  replace G0 := G0.later hb
  replace GP := GP.later hb
  replace B := Wd.Ge.trans B hb
  clear hb
  go_wp2_with fail
  refine (E2.out _).mono ?_
  rintro e' w5 ⟨rfl, hb⟩
  replace G0 := G0.later hb
  replace GP := GP.later hb
  replace B := Wd.Ge.trans B hb
  clear hb
  go_wp2_with fail
  refine (E3.out _).mono ?_
  rintro e' w6 ⟨rfl, hb⟩
  replace G0 := G0.later hb
  replace GP := GP.later hb
  replace B := Wd.Ge.trans B hb
  clear hb
  have MX := layR l4 e4 k4 v4 d4 i4 a4 25 w6
  have hb := below1 w6 (.cells #[.int .u64 l4, .int .u32 e4, .int .i64 k4, .int .u64 v4, .int .u64 d4, .string i4, .string a4] 25)
  replace G0 := G0.later hb
  replace GP := GP.later hb
  replace B := Wd.Ge.trans B hb
  clear hb
  go_upto_region 6 with fail
  generalize w6.alloc (.cells #[.int .u64 l4, .int .u32 e4, .int .i64 k4, .int .u64 v4, .int .u64 d4, .string i4, .string a4] 25) = w7 at *
  generalize w6.heap.size = b11 at *
  go_wp2_with fail
  refine (E4.out _).mono ?_
  rintro e' w8 ⟨rfl, hb⟩
  replace G0 := G0.later hb
  replace GP := GP.later hb
  replace MX := MX.later hb
  replace B := Wd.Ge.trans B hb
  clear hb
  have MY := layR l4 e4 k4 v4 d4 i4 a4 33 w8
  have hb := below1 w8 (.cells #[.int .u64 l4, .int .u32 e4, .int .i64 k4, .int .u64 v4, .int .u64 d4, .string i4, .string a4] 33)
  replace G0 := G0.later hb
  replace GP := GP.later hb
  replace MX := MX.later hb
  replace B := Wd.Ge.trans B hb
  clear hb
  go_upto_region 7 with fail
  generalize w8.alloc (.cells #[.int .u64 l4, .int .u32 e4, .int .i64 k4, .int .u64 v4, .int .u64 d4, .string i4, .string a4] 33) = w9 at *
  generalize w8.heap.size = b13 at *
  obtain ⟨pg, p0, p1⟩ := GP
  have GP : LiesP w9 (w.heap.size + 1) l2 e2 := ⟨pg, p0, p1⟩
  go_wp2_with fail
  refine (E5.out _).mono ?_
  rintro e' w10 ⟨rfl, hb⟩
  clear p0 p1 pg
  replace G0 := G0.later hb
  replace GP := GP.later hb
  replace MX := MX.later hb
  replace MY := MY.later hb
  replace B := Wd.Ge.trans B hb
  clear hb
  have MP := layR l5 e5 k5 v5 d5 i5 a5 25 w10
  have hb := below1 w10 (.cells #[.int .u64 l5, .int .u32 e5, .int .i64 k5, .int .u64 v5, .int .u64 d5, .string i5, .string a5] 25)
  replace G0 := G0.later hb
  replace GP := GP.later hb
  replace MX := MX.later hb
  replace MY := MY.later hb
  replace B := Wd.Ge.trans B hb
  clear hb
  go_upto_region 8 with fail
  generalize w10.alloc (.cells #[.int .u64 l5, .int .u32 e5, .int .i64 k5, .int .u64 v5, .int .u64 d5, .string i5, .string a5] 25) = w11 at *
  generalize w10.heap.size = b15 at *
  obtain ⟨pg, p0, p1⟩ := GP
  have GP : LiesP w11 (w.heap.size + 1) l2 e2 := ⟨pg, p0, p1⟩
  go_wp2_with fail
  refine (E6.out _).mono ?_
  rintro e' w12 ⟨rfl, hb⟩
  clear p0 p1 pg
  replace G0 := G0.later hb
  replace GP := GP.later hb
  replace MX := MX.later hb
  replace MY := MY.later hb
  replace MP := MP.later hb
  replace B := Wd.Ge.trans B hb
  clear hb
  have MQ := layR l5 e5 k5 v5 d5 i5 a5 33 w12
  have hb := below1 w12 (.cells #[.int .u64 l5, .int .u32 e5, .int .i64 k5, .int .u64 v5, .int .u64 d5, .string i5, .string a5] 33)
  replace G0 := G0.later hb
  replace GP := GP.later hb
  replace MX := MX.later hb
  replace MY := MY.later hb
  replace MP := MP.later hb
  replace B := Wd.Ge.trans B hb
  clear hb
  go_upto_region 9 with fail
  generalize w12.alloc (.cells #[.int .u64 l5, .int .u32 e5, .int .i64 k5, .int .u64 v5, .int .u64 d5, .string i5, .string a5] 33) = w13 at *
  generalize w12.heap.size = b17 at *
  have h2 : InvW w b11 b13 b15 b17 l0 e0 k0 v0 d0 x0 y0 l4 e4 k4 v4 d4 i4 a4 l5 e5 k5 v5 d5 i5 a5 w13 := ⟨B, G0.L, MX, MY, MP, MQ⟩
  clear B G0 GP MX MY MP MQ E1 E2 E3 E4 E5 E6
  have hne : Nonempty (In (InvW w b11 b13 b15 b17 l0 e0 k0 v0 d0 x0 y0 l4 e4 k4 v4 d4 i4 a4 l5 e5 k5 v5 d5 i5 a5)) := ⟨⟨_, h2⟩⟩
  have fr0 : ∀ j : In (InvW w b11 b13 b15 b17 l0 e0 k0 v0 d0 x0 y0 l4 e4 k4 v4 d4 i4 a4 l5 e5 k5 v5 d5 i5 a5), j.W.cell? ⟨w.heap.size, 0, none⟩ = some (.int .u64 l0) := fun j => j.h.r.c0
  have fr1 : ∀ j : In (InvW w b11 b13 b15 b17 l0 e0 k0 v0 d0 x0 y0 l4 e4 k4 v4 d4 i4 a4 l5 e5 k5 v5 d5 i5 a5), j.W.cell? ⟨w.heap.size, 1, none⟩ = some (.int .u32 e0) := fun j => j.h.r.c1
  have fr2 : ∀ j : In (InvW w b11 b13 b15 b17 l0 e0 k0 v0 d0 x0 y0 l4 e4 k4 v4 d4 i4 a4 l5 e5 k5 v5 d5 i5 a5), j.W.cell? ⟨w.heap.size, 2, none⟩ = some (.int .i64 k0) := fun j => j.h.r.c2
  have fr3 : ∀ j : In (InvW w b11 b13 b15 b17 l0 e0 k0 v0 d0 x0 y0 l4 e4 k4 v4 d4 i4 a4 l5 e5 k5 v5 d5 i5 a5), j.W.cell? ⟨w.heap.size, 3, none⟩ = some (.int .u64 v0) := fun j => j.h.r.c3
  have fr4 : ∀ j : In (InvW w b11 b13 b15 b17 l0 e0 k0 v0 d0 x0 y0 l4 e4 k4 v4 d4 i4 a4 l5 e5 k5 v5 d5 i5 a5), j.W.cell? ⟨w.heap.size, 4, none⟩ = some (.int .u64 d0) := fun j => j.h.r.c4
  have fr5 : ∀ j : In (InvW w b11 b13 b15 b17 l0 e0 k0 v0 d0 x0 y0 l4 e4 k4 v4 d4 i4 a4 l5 e5 k5 v5 d5 i5 a5), j.W.cell? ⟨w.heap.size, 5, none⟩ = some (.string x0) := fun j => j.h.r.c5
  have fr6 : ∀ j : In (InvW w b11 b13 b15 b17 l0 e0 k0 v0 d0 x0 y0 l4 e4 k4 v4 d4 i4 a4 l5 e5 k5 v5 d5 i5 a5), j.W.cell? ⟨w.heap.size, 6, none⟩ = some (.string y0) := fun j => j.h.r.c6
  have fx0 : ∀ j : In (InvW w b11 b13 b15 b17 l0 e0 k0 v0 d0 x0 y0 l4 e4 k4 v4 d4 i4 a4 l5 e5 k5 v5 d5 i5 a5), j.W.cell? ⟨b11, 0, none⟩ = some (.int .u64 l4) := fun j => j.h.x.c0
  have fx1 : ∀ j : In (InvW w b11 b13 b15 b17 l0 e0 k0 v0 d0 x0 y0 l4 e4 k4 v4 d4 i4 a4 l5 e5 k5 v5 d5 i5 a5), j.W.cell? ⟨b11, 1, none⟩ = some (.int .u32 e4) := fun j => j.h.x.c1
  have fx2 : ∀ j : In (InvW w b11 b13 b15 b17 l0 e0 k0 v0 d0 x0 y0 l4 e4 k4 v4 d4 i4 a4 l5 e5 k5 v5 d5 i5 a5), j.W.cell? ⟨b11, 2, none⟩ = some (.int .i64 k4) := fun j => j.h.x.c2
  have fx3 : ∀ j : In (InvW w b11 b13 b15 b17 l0 e0 k0 v0 d0 x0 y0 l4 e4 k4 v4 d4 i4 a4 l5 e5 k5 v5 d5 i5 a5), j.W.cell? ⟨b11, 3, none⟩ = some (.int .u64 v4) := fun j => j.h.x.c3
  have fx4 : ∀ j : In (InvW w b11 b13 b15 b17 l0 e0 k0 v0 d0 x0 y0 l4 e4 k4 v4 d4 i4 a4 l5 e5 k5 v5 d5 i5 a5), j.W.cell? ⟨b11, 4, none⟩ = some (.int .u64 d4) := fun j => j.h.x.c4
  have fx5 : ∀ j : In (InvW w b11 b13 b15 b17 l0 e0 k0 v0 d0 x0 y0 l4 e4 k4 v4 d4 i4 a4 l5 e5 k5 v5 d5 i5 a5), j.W.cell? ⟨b11, 5, none⟩ = some (.string i4) := fun j => j.h.x.c5
  have fx6 : ∀ j : In (InvW w b11 b13 b15 b17 l0 e0 k0 v0 d0 x0 y0 l4 e4 k4 v4 d4 i4 a4 l5 e5 k5 v5 d5 i5 a5), j.W.cell? ⟨b11, 6, none⟩ = some (.string a4) := fun j => j.h.x.c6
  have fy0 : ∀ j : In (InvW w b11 b13 b15 b17 l0 e0 k0 v0 d0 x0 y0 l4 e4 k4 v4 d4 i4 a4 l5 e5 k5 v5 d5 i5 a5), j.W.cell? ⟨b13, 0, none⟩ = some (.int .u64 l4) := fun j => j.h.y.c0
  have fy1 : ∀ j : In (InvW w b11 b13 b15 b17 l0 e0 k0 v0 d0 x0 y0 l4 e4 k4 v4 d4 i4 a4 l5 e5 k5 v5 d5 i5 a5), j.W.cell? ⟨b13, 1, none⟩ = some (.int .u32 e4) := fun j => j.h.y.c1
  have fy2 : ∀ j : In (InvW w b11 b13 b15 b17 l0 e0 k0 v0 d0 x0 y0 l4 e4 k4 v4 d4 i4 a4 l5 e5 k5 v5 d5 i5 a5), j.W.cell? ⟨b13, 2, none⟩ = some (.int .i64 k4) := fun j => j.h.y.c2
  have fy3 : ∀ j : In (InvW w b11 b13 b15 b17 l0 e0 k0 v0 d0 x0 y0 l4 e4 k4 v4 d4 i4 a4 l5 e5 k5 v5 d5 i5 a5), j.W.cell? ⟨b13, 3, none⟩ = some (.int .u64 v4) := fun j => j.h.y.c3
  have fy4 : ∀ j : In (InvW w b11 b13 b15 b17 l0 e0 k0 v0 d0 x0 y0 l4 e4 k4 v4 d4 i4 a4 l5 e5 k5 v5 d5 i5 a5), j.W.cell? ⟨b13, 4, none⟩ = some (.int .u64 d4) := fun j => j.h.y.c4
  have fy5 : ∀ j : In (InvW w b11 b13 b15 b17 l0 e0 k0 v0 d0 x0 y0 l4 e4 k4 v4 d4 i4 a4 l5 e5 k5 v5 d5 i5 a5), j.W.cell? ⟨b13, 5, none⟩ = some (.string i4) := fun j => j.h.y.c5
  have fy6 : ∀ j : In (InvW w b11 b13 b15 b17 l0 e0 k0 v0 d0 x0 y0 l4 e4 k4 v4 d4 i4 a4 l5 e5 k5 v5 d5 i5 a5), j.W.cell? ⟨b13, 6, none⟩ = some (.string a4) := fun j => j.h.y.c6
  have fp0 : ∀ j : In (InvW w b11 b13 b15 b17 l0 e0 k0 v0 d0 x0 y0 l4 e4 k4 v4 d4 i4 a4 l5 e5 k5 v5 d5 i5 a5), j.W.cell? ⟨b15, 0, none⟩ = some (.int .u64 l5) := fun j => j.h.p.c0
  have fp1 : ∀ j : In (InvW w b11 b13 b15 b17 l0 e0 k0 v0 d0 x0 y0 l4 e4 k4 v4 d4 i4 a4 l5 e5 k5 v5 d5 i5 a5), j.W.cell? ⟨b15, 1, none⟩ = some (.int .u32 e5) := fun j => j.h.p.c1
  have fp2 : ∀ j : In (InvW w b11 b13 b15 b17 l0 e0 k0 v0 d0 x0 y0 l4 e4 k4 v4 d4 i4 a4 l5 e5 k5 v5 d5 i5 a5), j.W.cell? ⟨b15, 2, none⟩ = some (.int .i64 k5) := fun j => j.h.p.c2
  have fp3 : ∀ j : In (InvW w b11 b13 b15 b17 l0 e0 k0 v0 d0 x0 y0 l4 e4 k4 v4 d4 i4 a4 l5 e5 k5 v5 d5 i5 a5), j.W.cell? ⟨b15, 3, none⟩ = some (.int .u64 v5) := fun j => j.h.p.c3
  have fp4 : ∀ j : In (InvW w b11 b13 b15 b17 l0 e0 k0 v0 d0 x0 y0 l4 e4 k4 v4 d4 i4 a4 l5 e5 k5 v5 d5 i5 a5), j.W.cell? ⟨b15, 4, none⟩ = some (.int .u64 d5) := fun j => j.h.p.c4
  have fp5 : ∀ j : In (InvW w b11 b13 b15 b17 l0 e0 k0 v0 d0 x0 y0 l4 e4 k4 v4 d4 i4 a4 l5 e5 k5 v5 d5 i5 a5), j.W.cell? ⟨b15, 5, none⟩ = some (.string i5) := fun j => j.h.p.c5
  have fp6 : ∀ j : In (InvW w b11 b13 b15 b17 l0 e0 k0 v0 d0 x0 y0 l4 e4 k4 v4 d4 i4 a4 l5 e5 k5 v5 d5 i5 a5), j.W.cell? ⟨b15, 6, none⟩ = some (.string a5) := fun j => j.h.p.c6
  have fq0 : ∀ j : In (InvW w b11 b13 b15 b17 l0 e0 k0 v0 d0 x0 y0 l4 e4 k4 v4 d4 i4 a4 l5 e5 k5 v5 d5 i5 a5), j.W.cell? ⟨b17, 0, none⟩ = some (.int .u64 l5) := fun j => j.h.q.c0
  have fq1 : ∀ j : In (InvW w b11 b13 b15 b17 l0 e0 k0 v0 d0 x0 y0 l4 e4 k4 v4 d4 i4 a4 l5 e5 k5 v5 d5 i5 a5), j.W.cell? ⟨b17, 1, none⟩ = some (.int .u32 e5) := fun j => j.h.q.c1
  have fq2 : ∀ j : In (InvW w b11 b13 b15 b17 l0 e0 k0 v0 d0 x0 y0 l4 e4 k4 v4 d4 i4 a4 l5 e5 k5 v5 d5 i5 a5), j.W.cell? ⟨b17, 2, none⟩ = some (.int .i64 k5) := fun j => j.h.q.c2
  have fq3 : ∀ j : In (InvW w b11 b13 b15 b17 l0 e0 k0 v0 d0 x0 y0 l4 e4 k4 v4 d4 i4 a4 l5 e5 k5 v5 d5 i5 a5), j.W.cell? ⟨b17, 3, none⟩ = some (.int .u64 v5) := fun j => j.h.q.c3
  have fq4 : ∀ j : In (InvW w b11 b13 b15 b17 l0 e0 k0 v0 d0 x0 y0 l4 e4 k4 v4 d4 i4 a4 l5 e5 k5 v5 d5 i5 a5), j.W.cell? ⟨b17, 4, none⟩ = some (.int .u64 d5) := fun j => j.h.q.c4
  have fq5 : ∀ j : In (InvW w b11 b13 b15 b17 l0 e0 k0 v0 d0 x0 y0 l4 e4 k4 v4 d4 i4 a4 l5 e5 k5 v5 d5 i5 a5), j.W.cell? ⟨b17, 5, none⟩ = some (.string i5) := fun j => j.h.q.c5
  have fq6 : ∀ j : In (InvW w b11 b13 b15 b17 l0 e0 k0 v0 d0 x0 y0 l4 e4 k4 v4 d4 i4 a4 l5 e5 k5 v5 d5 i5 a5), j.W.cell? ⟨b17, 6, none⟩ = some (.string a5) := fun j => j.h.q.c6
  refine region_class (InvW w b11 b13 b15 b17 l0 e0 k0 v0 d0 x0 y0 l4 e4 k4 v4 d4 i4 a4 l5 e5 k5 v5 d5 i5 a5) (by kernel_rfl) (by kernel_rfl) h2.drawn ?_
  repeat (go_big_quiet_step (first
    | (go_at_call 17; with_reducible exact class_call _ (fun hi => invW_ge hi (E7.out _)))
    | (go_at_call 18; with_reducible exact class_call _ (fun hi => invW_ge hi (E8.out _)))
    | (go_at_call 12; with_reducible exact class_call _ (fun hi => invW_ge hi (ref_any l0 e0 k0 v0 d0 x0 y0 _)))
    | (go_at_call 12; with_reducible exact class_call _ (fun hi => invW_ge hi (ref_any l4 e4 k4 v4 d4 i4 a4 _)))
    | (go_at_call 12; with_reducible exact class_call _ (fun hi => invW_ge hi (ref_any l5 e5 k5 v5 d5 i5 a5 _)))
    | (go_at_call 19; with_reducible exact class_call _ (fun hi => invW_ge hi (fixed_any _)))))
  refine wpQuiet_nil ?_
  rintro _ ⟨j, rfl⟩
  go_wp2_with fail
  go_ret
  exact ⟨rfl, j.h.b⟩


theorem encode_both (l e k v d : Int) (i a : ByteArray) (hf : Fits ⟨l, e, k, v, d, i.data.toList, a.data.toList⟩) (hi : i.size ≤ maxLen) (ha : a.size ≤ maxLen) : ∃ (S : ByteArray) (z : Int),
    (∀ w, Calls Try.prog 10 #[.agg #[.int .u64 l, .int .u32 e, .int .i64 k, .int .u64 v, .int .u64 d, .string i, .string a]] w fun e' w' => e' = .returned (.tuple #[.string S, .int .i64 z]) ∧ Below w.heap.size w w') ∧
    (∀ w, Calls Try.prog 11 #[.agg #[.int .u64 l, .int .u32 e, .int .i64 k, .int .u64 v, .int .u64 d, .string i, .string a]] w fun e' w' => e' = .returned (.tuple #[.string S, .int .i64 z]) ∧ Below w.heap.size w w') := by
  cases h : okR ⟨l, e, k, v, d, i.data.toList, a.data.toList⟩
  · exact ⟨⟨#[]⟩, 5, fun w => encode_no l e k v d i a w hi ha h, fun w => R6.encode_no l e k v d i a w hi ha h⟩
  · exact ⟨⟨(secL ⟨l, e, k, v, d, i.data.toList, a.data.toList⟩).toArray⟩, 0, fun w => encode_yes l e k v d i a _ w hf h (by simp), fun w => R6.encode_yes l e k v d i a _ w hf h (by simp)⟩

theorem decode_both (T : ByteArray) (x y : Int) (zT : T.size ≤ 130) : ∃ (z : Int) (o : Bool) (l4 e4 k4 v4 d4 : Int) (i4 a4 : ByteArray) (l5 e5 k5 v5 d5 : Int) (i5 a5 : ByteArray),
    (∀ w, Calls Try.prog 13 #[.string T] w fun e' w' => e' = .returned (.tuple #[.agg #[.int .u64 l4, .int .u32 e4, .int .i64 k4, .int .u64 v4, .int .u64 d4, .string i4, .string a4], .int .i64 z]) ∧ Below w.heap.size w w') ∧
    (∀ w, Calls Try.prog 14 #[.string T] w fun e' w' => e' = .returned (.tuple #[.agg #[.int .u64 l4, .int .u32 e4, .int .i64 k4, .int .u64 v4, .int .u64 d4, .string i4, .string a4], .int .i64 z]) ∧ Below w.heap.size w w') ∧
    (∀ w, Calls Try.prog 15 #[.string T, .int .u64 x, .int .u32 y] w fun e' w' => e' = .returned (.tuple #[.agg #[.int .u64 l5, .int .u32 e5, .int .i64 k5, .int .u64 v5, .int .u64 d5, .string i5, .string a5], .bool o]) ∧ Below w.heap.size w w') ∧
    (∀ w, Calls Try.prog 16 #[.string T, .int .u64 x, .int .u32 y] w fun e' w' => e' = .returned (.tuple #[.agg #[.int .u64 l5, .int .u32 e5, .int .i64 k5, .int .u64 v5, .int .u64 d5, .string i5, .string a5], .bool o]) ∧ Below w.heap.size w w') := by
  obtain ⟨l, e, k, v, d, i, a, hR⟩ : ∃ l e k v d, ∃ i a : ByteArray, cutR T.data.toList = ⟨l, e, k, v, d, i.data.toList, a.data.toList⟩ := ⟨_, _, _, _, _, ⟨(cutR T.data.toList).i.toArray⟩, ⟨(cutR T.data.toList).a.toArray⟩, rfl⟩
  have hT : T.size ≤ 140737488355328 := by omega
  have hm : T.size ≤ maxLen := by unfold maxLen; omega
  cases hs : isSec T.data.toList
  · have D : ∀ w, Calls Try.prog 14 #[.string T] w fun e' w' => e' = .returned (.tuple #[.agg #[.int .u64 0, .int .u32 0, .int .i64 0, .int .u64 0, .int .u64 0, .string ⟨#[]⟩, .string ⟨#[]⟩], .int .i64 5]) ∧ Below w.heap.size w w' := fun w => R6.decode_is T l e k v d i a w hm hR _ 5 (.inr ⟨hs, rfl, rfl⟩)
    exact ⟨5, false, 0, 0, 0, 0, 0, ⟨#[]⟩, ⟨#[]⟩, 0, 0, 0, 0, 0, ⟨#[]⟩, ⟨#[]⟩, fun w => decode_no T w hT hs, D, fun w => next_none T x y w hT hs, fun w => R6.next_no T 0 0 0 0 0 ⟨#[]⟩ ⟨#[]⟩ 5 x y w (Lib.hid D) (.inl rfl)⟩
  · have D : ∀ w, Calls Try.prog 14 #[.string T] w fun e' w' => e' = .returned (.tuple #[.agg #[.int .u64 l, .int .u32 e, .int .i64 k, .int .u64 v, .int .u64 d, .string i, .string a], .int .i64 0]) ∧ Below w.heap.size w w' := fun w => R6.decode_is T l e k v d i a w hm hR _ 0 (.inl ⟨hs, rfl, rfl⟩)
    by_cases hq : l = x ∧ e = y
    · obtain ⟨rfl, rfl⟩ := hq
      exact ⟨0, true, l, e, k, v, d, i, a, l, e, k, v, d, i, a, fun w => decode_yes T l e k v d i a w hT hR hs, D, fun w => next_yes T l e k v d i a w hT hR hs, fun w => R6.next_yes T l e k v d i a w (Lib.hid D)⟩
    · refine ⟨0, false, l, e, k, v, d, i, a, 0, 0, 0, 0, 0, ⟨#[]⟩, ⟨#[]⟩, fun w => decode_yes T l e k v d i a w hT hR hs, D, fun w => next_not T l e k v d i a x y w hT hR hs hq, fun w => R6.next_no T l e k v d i a 0 x y w (Lib.hid D) ?_⟩
      by_cases hl : l = x
      · exact .inr (.inr ⟨rfl, hl, by rw [beq_eq_false_iff_ne]; exact fun h => hq ⟨hl, h⟩⟩)
      · exact .inr (.inl ⟨rfl, by rw [beq_eq_false_iff_ne]; exact hl⟩)

theorem walk (l0 e0 k0 v0 d0 : Int) (i0 a0 : ByteArray) (s : ByteArray) (l2 e2 : Int) (w : World) (hl0 : 0 ≤ l0 ∧ l0 < 18446744073709551616) (he0 : 0 ≤ e0 ∧ e0 < 4294967296) (hk0 : -9223372036854775808 ≤ k0 ∧ k0 ≤ 9223372036854775807) (hv0 : 0 ≤ v0 ∧ v0 < 18446744073709551616) (hd0 : 0 ≤ d0 ∧ d0 < 18446744073709551616) (hi0 : i0.size ≤ maxLen) (ha0 : a0.size ≤ maxLen) (w1 : s.size ≤ maxLen) (hl2 : 0 ≤ l2 ∧ l2 < 18446744073709551616) (he2 : 0 ≤ e2 ∧ e2 < 4294967296) :
    Calls Try.prog 3 #[.agg #[.int .u64 l0, .int .u32 e0, .int .i64 k0, .int .u64 v0, .int .u64 d0, .string i0, .string a0], .string s, .agg #[.int .u64 l2, .int .u32 e2]] w fun e' w' => e' = .returned (.bool true) ∧ Below w.heap.size w w' := by
  obtain ⟨T, ET⟩ : ∃ T, Hid (s.extract 0 (min (s.size : Int) 130).toNat = T) := ⟨_, rfl⟩
  have zT : T.size ≤ 130 := by
    rw [← ET.out, Go.Lib.size_eq, ext_take, List.length_take]; omega
  have f0 : Fits ⟨l0, e0, k0, v0, d0, (cut80 i0).data.toList, (cut80 a0).data.toList⟩ := okA (i := cut80 i0) (a := cut80 a0) hl0 he0 hv0 hd0
  obtain ⟨SA, z1, E1, E2⟩ := encode_both l0 e0 k0 v0 d0 (cut80 i0) (cut80 a0) f0 (cut80_le i0) (cut80_le a0)
  obtain ⟨z2, o, l4, e4, k4, v4, d4, i4, a4, l5, e5, k5, v5, d5, i5, a5, E3, E4, E5, E6⟩ := decode_both T l2 e2 zT
  exact main l0 e0 k0 v0 d0 i0 a0 s l2 e2 w hl0 he0 hk0 hv0 hd0 hi0 ha0 w1 T ET zT SA z1 (Lib.hid E1) (Lib.hid E2) z2 l4 e4 k4 v4 d4 i4 a4 (Lib.hid E3) (Lib.hid E4) o l5 e5 k5 v5 d5 i5 a5 (Lib.hid E5) (Lib.hid E6) (okR ⟨l0, e0, k0, v0, d0, (cut80 i0).data.toList, (cut80 a0).data.toList⟩)
    (Lib.hid fun w => right_any l0 e0 k0 v0 d0 (cut80 i0) (cut80 a0) _ w (cut80_le i0) (cut80_le a0) rfl) (Lib.hid fun w => R6.right_any l0 e0 k0 v0 d0 (cut80 i0) (cut80 a0) _ w (cut80_le i0) (cut80_le a0) rfl)

set_option maxRecDepth 100000 in
theorem lifted (os : Os) (started : os.Started) (H : Type) (enc : TypeId × Value → H) :
    ReturnsInHanded {} Try.checked os 3 .any (Rows.recordTellsSpec.pre6 enc Try.prog Try.f3 Rows.recordTellsRow.domain false) (Rows.recordTellsSpec.post enc Try.prog Try.f3 false true false false) := by
  refine returnsInHanded_of_change (C := Try.checked) own started (by kernel_rfl) Try.func3
    (ChangeSpec.witness6 (enc := enc) (C := Try.checked) false ⟨#[], #[.agg #[.int .u64 0, .int .u32 0, .int .i64 0, .int .u64 0, .int .u64 0, .string ByteArray.empty, .string ByteArray.empty], .string ByteArray.empty, .agg #[.int .u64 0, .int .u32 0]], []⟩ 8 (by kernel_rfl) (by kernel_rfl) (by kernel_rfl) (by kernel_rfl)) ?_
  intro W base args ds gs before hval0 hW hcnd _
  have hval : ∀ (j : Nat) t v, Try.f3.params[j]? = some t → args[j]? = some v → Value.okWide Try.prog W .any base t v := hval0
  have hW' := hW
  obtain ⟨p, q, hA0, hV, rfl, hfz, hnd⟩ := hW
  have hA : DataW.TrodAll enc Try.prog W 0 (fun _ => true) true Try.f3.params.toList args.toList ds p := hA0
  rw [Try.params3] at hA hval
  obtain ⟨v0, vs0, d0, ds0, p0, q0, hargs, rfl, rfl, h0, r0⟩ := trodAll_cons hA
  obtain ⟨v1, vs1, d1, ds1, p1, q1, rfl, rfl, rfl, h1, r1⟩ := trodAll_cons r0
  obtain ⟨v2, vs2, d2, ds2, p2, q2, rfl, rfl, rfl, h2, r2⟩ := trodAll_cons r1
  obtain ⟨rfl, rfl, rfl⟩ := trodAll_nil r2
  obtain rfl : args = #[v0, v1, v2] := by cases args; simp_all
  obtain ⟨rfl, rfl⟩ := trodVars_none hV
  obtain ⟨l0, e0, k0, v0, d0, i0, a0, rfl, hl0, he0, hk0, hv0, hd0, hi0, ha0⟩ := open_rec (hval 0 25 v0 rfl rfl) h0
  obtain ⟨a1, rfl, rfl, rfl, w1⟩ := open_string Try.underlying9 (hval 1 9 v1 rfl rfl) h1
  obtain ⟨l2, e2, rfl, hl2, he2⟩ := open_place (hval 2 27 v2 rfl rfl) h2
  clear hA0 hval0
  try simp only [List.append_nil] at hW'
  try simp only [List.nil_append] at hW'
  have hlt := fun x hx => hW'.lt x hx
  refine (walk l0 e0 k0 v0 d0 i0 a0 a1 l2 e2 W hl0 he0 hk0 hv0 hd0 hi0 ha0 w1 hl2 he2).mono fun e W' ⟨he, hg⟩ => ?_
  subst he
  refine ⟨_, rfl, post_mem hW' (fun _ _ _ => (trodAll_cons_mk (shut_bool Try.underlying4 _) trodAll_mk0)) (fun sp hsp => ?_) (fun _ => rfl) hg (ok_one (by kernel_rfl) rfl (okWide_bool_mk Try.underlying4 _))⟩
  have hall := (trodAll_cons_mk (arg_same (sp := sp) laid (by kernel_rfl) (of_decide_eq_true (by kernel_rfl)) h0 hg (by intro x hx; simp_all) hlt hsp) (trodAll_cons_mk (arg_same (sp := sp) laid (by kernel_rfl) (of_decide_eq_true (by kernel_rfl)) h1 hg (by intro x hx; simp_all) hlt hsp) (trodAll_cons_mk (arg_same (sp := sp) laid (by kernel_rfl) (of_decide_eq_true (by kernel_rfl)) h2 hg (by intro x hx; simp_all) hlt hsp) trodAll_mk0)))
  try simp only [List.append_nil] at hall
  try simp only [List.nil_append] at hall
  exact hall

theorem over : Rows.recordTellsRow.holds Try.pinned (OpenSpec.ofChange Rows.recordTellsSpec) :=
  OpenClaim.holds_of_wide 3 Try.f3 rfl rfl rfl rfl rfl rfl rfl ⟨rfl, rfl, rfl, rfl, rfl⟩ rfl rfl rfl rfl rfl (by kernel_rfl) Try.func3 (by kernel_rfl)
    (of_decide_eq_true (by kernel_rfl)) (by unfold Func.isWrapper; first | (rw [if_pos (by decide +kernel)]; kernel_rfl) | (rw [if_neg (by decide +kernel)]; exact ⟨rfl, rfl⟩))
    (fun os started H enc _ => lifted os started H enc)

theorem proved : Rows.RecordTellsSaid := over
#print axioms proved
end Go.Proofs.Ytgpcfdkblkkpeaa.recordTells
