/- One call of both. -/
import Derived.Test.YtfhdckmpodmejaaSwD
import Derived.Test.YtfhdckmpodmejaaSwJ
import Derived.Deep.RegionHeld3
namespace Go.Proofs.Ytfhdckmpodmejaa.Sw
open Go.ChangeShapes Go.WideShapes Go.ChangeAt Go.RowKit Go.Lib Go.Joins Go.Deep
open Sp Rw
set_option linter.unusedVariables false
set_option maxRecDepth 100000

theorem cell4 {w : World} {b : Nat} {T : TypeId} {a0 a1 a2 a3 : Value} (h : Sp.Blk w b T #[a0, a1, a2, a3]) (x0 x1 x2 x3 : Value) {g i : Nat} (hg : g ≠ b) : ((((w.setCell ⟨b, 0, none⟩ x0).setCell ⟨b, 1, none⟩ x1).setCell ⟨b, 2, none⟩ x2).setCell ⟨b, 3, none⟩ x3).cell? ⟨g, i, none⟩ = w.cell? ⟨g, i, none⟩ := by
  rw [set4 h]
  unfold World.cell?
  simp only
  rw [setRow_other w b g _ hg]
theorem res_3 {fn : Func} {p' q' r' : Tmp} (h : fn.results = #[.cell p' 25, .cell q' 27, .tmp r']) (tmps : Array Value) (W : World) (b d : Nat) {v c n v2 c2 n2 : Int} {A B : Option Addr} {m p k q : Nat} {t t2 : TypeId} {y : Value} (hp : tmps.getD p' undef = .pointer (some ⟨b, 0, none⟩)) (hq : tmps.getD q' undef = .pointer (some ⟨d, 0, none⟩)) (hr : tmps.getD r' undef = y) (L : Sp.Blk W b t #[.slice A m p, .int .i64 v, .int .i64 c, .int .i64 n]) (M : Sp.Blk W d t2 #[.slice B k q, .int .i64 v2, .int .i64 c2, .int .i64 n2]) :
    (results fn tmps).run Try.prog W = .ok (.tuple #[.agg #[.slice A m p, .int .i64 v, .int .i64 c, .int .i64 n], .agg #[.slice B k q, .int .i64 v2, .int .i64 c2, .int .i64 n2], y]) W := by
  have hp' : tmps[p']?.getD undef = .pointer (some ⟨b, 0, none⟩) := by simpa using hp
  have hq' : tmps[q']?.getD undef = .pointer (some ⟨d, 0, none⟩) := by simpa using hq
  have hr' : tmps[r']?.getD undef = y := by simpa using hr
  have h1 : (loadVar 25 ⟨b, 0, none⟩).run Try.prog W = .ok (.agg #[.slice A m p, .int .i64 v, .int .i64 c, .int .i64 n]) W := run_loadVar_row W b t 25 #[.slice A m p, .int .i64 v, .int .i64 c, .int .i64 n] (0, 0) _ L Try.underlying25 rfl info_p
  have h2 : (loadVar 27 ⟨d, 0, none⟩).run Try.prog W = .ok (.agg #[.slice B k q, .int .i64 v2, .int .i64 c2, .int .i64 n2]) W := run_loadVar_row W d t2 27 #[.slice B k q, .int .i64 v2, .int .i64 c2, .int .i64 n2] (0, 0) _ M Try.underlying27 rfl info_r
  simp [results, h, hp', hq', hr', asAddr, h1, h2]
/-- What both tell: the same state. -/
inductive OutD (w : World) (s0 : St) (A0 B0 : Option Addr) (e : Ending) (w' : World) : Prop where
  | mk (s : St) (A : Option Addr) (p : Nat) (B : Option Addr) (q : Nat) (hR : Right s) (he : e = .returned (.tuple #[.agg (sc s A p), .agg (sc s B q), .bool true])) (hA : VR w' A s.t.length (iv s.t)) (hB : VR w' B s.t.length (iv s.t)) (hb : Below w.heap.size w w') (fA : (A = A0 ∧ s = s0) ∨ ∀ a, A = some a → w.heap.size ≤ a.block) (fB : (B = B0 ∧ s = s0) ∨ ∀ a, B = some a → w.heap.size ≤ a.block)
set_option maxHeartbeats 2000000 in
theorem do_any (s : St) (A : Option Addr) (p : Nat) (B : Option Addr) (q : Nat) (o : Cl) (w : World) (HR : Right s) (hA : VR w A s.t.length (iv s.t)) (hB : VR w B s.t.length (iv s.t)) (ho : ClIn w o) :
    Calls Try.prog 10 #[.agg (sc s A p), .agg (sc s B q), .agg #[.int .i64 o.k, .int .i64 o.s, .int .i64 o.n, .slice o.A o.m o.c]] w (OutD w s A B) := by
  obtain ⟨b0, hb0⟩ : ∃ b0, w.heap.size = b0 := ⟨_, rfl⟩
  obtain ⟨W, hW⟩ : ∃ W, ((((w.alloc (.cells (sc s A p) 25)).alloc (.cells (sc s B q) 27)).alloc (.cells #[.int .i64 o.k, .int .i64 o.s, .int .i64 o.n, .slice o.A o.m o.c] 32)).alloc (.cells #[.slice none 0 0, .int .i64 0, .int .i64 0, .int .i64 0] 25)).alloc (.cells #[.slice none 0 0, .int .i64 0, .int .i64 0, .int .i64 0] 27) = W := ⟨_, rfl⟩
  have HB := Lib.hid (show Below w.heap.size w W by rw [← hW]; exact ((((below1 _ _).alloc (by simp) _).alloc (by simp; omega) _).alloc (by simp; omega) _).alloc (by simp; omega) _)
  have BA : Hid (Sp.Blk W b0 25 (sc s A p)) := Lib.hid (by rw [← hW, ← hb0]; exact ((((Sp.Blk.new _ _ _).later (below1 _ _)).later (below1 _ _)).later (below1 _ _)).later (below1 _ _))
  have BB : Hid (Sp.Blk W (b0 + 1) 27 (sc s B q)) := Lib.hid (by rw [← hW, ← hb0]; exact (((Sp.Blk.at_ _ _ _ (by simp)).later (below1 _ _)).later (below1 _ _)).later (below1 _ _))
  have BO : Hid (Sp.Blk W (b0 + 1 + 1) 32 #[.int .i64 o.k, .int .i64 o.s, .int .i64 o.n, .slice o.A o.m o.c]) := Lib.hid (by rw [← hW, ← hb0]; exact ((Sp.Blk.at_ _ _ _ (by simp)).later (below1 _ _)).later (below1 _ _))
  have BX : Hid (Sp.Blk W (b0 + 1 + 1 + 1) 25 #[.slice none 0 0, .int .i64 0, .int .i64 0, .int .i64 0]) := Lib.hid (by rw [← hW, ← hb0]; exact (Sp.Blk.at_ _ _ _ (by simp)).later (below1 _ _))
  have BY : Hid (Sp.Blk W (b0 + 1 + 1 + 1 + 1) 27 #[.slice none 0 0, .int .i64 0, .int .i64 0, .int .i64 0]) := Lib.hid (by rw [← hW, ← hb0]; exact Sp.Blk.at_ _ _ _ (by simp))
  have VA := Lib.hid (hA.later HB.out)
  have VB := Lib.hid (hB.later HB.out)
  have VO := Lib.hid (ho.later HB.out)
  have HZ := Lib.hid hb0
  have HA0 := Lib.hid hA
  have HB0 := Lib.hid hB
  have HRR := Lib.hid HR
  have hn : s.t.length < 1000 := by have := right_len HR; omega
  have HN := Lib.hid hn
  have H0 : Hid (Below W.heap.size W W) := Lib.hid (Below.refl _ _)
  clear HR hA hB ho hn
  have C1 := Lib.hid (psees_any s A p W HRR.out VA.out)
  have C2 : Hid (∀ X, Below W.heap.size W X → Calls Try.prog 28 #[.agg (sc s B q)] X (Out X (sees s))) := Lib.hid (fun X hX => rseen_any s B q X (VB.out.later hX) HN.out HRR.out)
  have a0 : W.cell? ⟨b0, 0, none⟩ = _ := (st_cells (BA.out.later H0.out)).1; have a1 : W.cell? ⟨b0, 1, none⟩ = _ := (st_cells (BA.out.later H0.out)).2.1; have a2 : W.cell? ⟨b0, 2, none⟩ = _ := (st_cells (BA.out.later H0.out)).2.2.1; have a3 : W.cell? ⟨b0, 3, none⟩ = _ := (st_cells (BA.out.later H0.out)).2.2.2; have b0' : W.cell? ⟨b0 + 1, 0, none⟩ = _ := (st_cells (BB.out.later H0.out)).1; have b1 : W.cell? ⟨b0 + 1, 1, none⟩ = _ := (st_cells (BB.out.later H0.out)).2.1; have b2 : W.cell? ⟨b0 + 1, 2, none⟩ = _ := (st_cells (BB.out.later H0.out)).2.2.1; have b3 : W.cell? ⟨b0 + 1, 3, none⟩ = _ := (st_cells (BB.out.later H0.out)).2.2.2; have o0 : W.cell? ⟨b0 + 1 + 1, 0, none⟩ = some (.int .i64 o.k) := (BO.out.later H0.out).cell 0; have o1 : W.cell? ⟨b0 + 1 + 1, 1, none⟩ = some (.int .i64 o.s) := (BO.out.later H0.out).cell 1; have o2 : W.cell? ⟨b0 + 1 + 1, 2, none⟩ = some (.int .i64 o.n) := (BO.out.later H0.out).cell 2; have o3 : W.cell? ⟨b0 + 1 + 1, 3, none⟩ = some (.slice o.A o.m o.c) := (BO.out.later H0.out).cell 3
  go_enter Try.func10, Try.ntmps10
  go_upto_region 2 with (go_at_call 24; refine C1.out.mono ?_; rintro e1 w1 ⟨A1, p1, rfl, S1⟩; have Q1 := Lib.hid S1; clear S1)
  clear hW hb0 C1
  obtain ⟨O, hO⟩ : ∃ O, sees s = O := ⟨_, rfl⟩
  have hOR : ∀ r, O = some r → Right r := fun r hr => sees_right HRR.out (hO.trans hr)
  have HOR := Lib.hid hOR
  rw [hO] at Q1 C2
  rw [hO]
  clear hO hOR
  change Code.wp _ _ _ _ (w1.alloc (.cells (sc (st O) A1 p1) 25))
  have H2 := Lib.hid (show Below W.heap.size W (w1.alloc (.cells (sc (st O) A1 p1) 25)) from Q1.out.below.trans ((below1 w1 _).mono Q1.out.below.size))
  have X2 : Hid (Sp.Blk (w1.alloc (.cells (sc (st O) A1 p1) 25)) w1.heap.size 25 (sc (st O) A1 p1)) := Lib.hid (Sp.Blk.new _ _ _)
  have V2 : Hid (VR (w1.alloc (.cells (sc (st O) A1 p1) 25)) A1 (st O).t.length (iv (st O).t)) := Lib.hid ((VR.of_row Q1.out (k := 0) rfl (by rw [iv_len])).later (below1 _ _))
  clear a0 a1 a2 a3 b0' b1 b2 b3 o0 o1 o2 o3
  have HN9 : Hid (W.heap.size ≤ w1.heap.size) := Lib.hid Q1.out.below.size
  have F1 : Hid (∀ a, A1 = some a → W.heap.size ≤ a.block) := Lib.hid (fun a ha => row_fresh Q1.out (k := 0) rfl a ha)
  clear Q1
  generalize w1.alloc (.cells (sc (st O) A1 p1) 25) = W2 at *
  generalize w1.heap.size = n9 at *
  clear w1
  have a0 : W2.cell? ⟨b0, 0, none⟩ = _ := (st_cells (BA.out.later H2.out)).1; have a1 : W2.cell? ⟨b0, 1, none⟩ = _ := (st_cells (BA.out.later H2.out)).2.1; have a2 : W2.cell? ⟨b0, 2, none⟩ = _ := (st_cells (BA.out.later H2.out)).2.2.1; have a3 : W2.cell? ⟨b0, 3, none⟩ = _ := (st_cells (BA.out.later H2.out)).2.2.2; have b0' : W2.cell? ⟨b0 + 1, 0, none⟩ = _ := (st_cells (BB.out.later H2.out)).1; have b1 : W2.cell? ⟨b0 + 1, 1, none⟩ = _ := (st_cells (BB.out.later H2.out)).2.1; have b2 : W2.cell? ⟨b0 + 1, 2, none⟩ = _ := (st_cells (BB.out.later H2.out)).2.2.1; have b3 : W2.cell? ⟨b0 + 1, 3, none⟩ = _ := (st_cells (BB.out.later H2.out)).2.2.2; have o0 : W2.cell? ⟨b0 + 1 + 1, 0, none⟩ = some (.int .i64 o.k) := (BO.out.later H2.out).cell 0; have o1 : W2.cell? ⟨b0 + 1 + 1, 1, none⟩ = some (.int .i64 o.s) := (BO.out.later H2.out).cell 1; have o2 : W2.cell? ⟨b0 + 1 + 1, 2, none⟩ = some (.int .i64 o.n) := (BO.out.later H2.out).cell 2; have o3 : W2.cell? ⟨b0 + 1 + 1, 3, none⟩ = some (.slice o.A o.m o.c) := (BO.out.later H2.out).cell 3
  go_upto_region 3 with (go_at_call 28; refine (C2.out _ H2.out).mono ?_; rintro e2 w2 ⟨B1, q1, rfl, hv, hb, hf⟩; have Q2 := Lib.hid hb; have U2 := Lib.hid hv; have G1 : Hid (∀ a, B1 = some a → W.heap.size ≤ a.block) := Lib.hid (fun a ha => Nat.le_trans H2.out.size (hf a ha)); clear hb hv hf)
  change Code.wp _ _ _ _ (w2.alloc (.cells (sc (st O) B1 q1) 27))
  have Q3 := Lib.hid (show Below W2.heap.size W2 (w2.alloc (.cells (sc (st O) B1 q1) 27)) from Q2.out.trans ((below1 w2 _).mono Q2.out.size))
  have H3 := Lib.hid (H2.out.trans (Q3.out.mono H2.out.size))
  have X3 := Lib.hid (X2.out.later Q3.out)
  have V3 := Lib.hid (V2.out.later Q3.out)
  have Y3 : Hid (Sp.Blk (w2.alloc (.cells (sc (st O) B1 q1) 27)) w2.heap.size 27 (sc (st O) B1 q1)) := Lib.hid (Sp.Blk.new _ _ _)
  have U3 := Lib.hid (U2.out.later (below1 w2 (.cells (sc (st O) B1 q1) 27)))
  have HN11 : Hid (n9 < w2.heap.size) := Lib.hid (by have := X2.out.lt; have := Q2.out.size; omega)
  clear a0 a1 a2 a3 b0' b1 b2 b3 o0 o1 o2 o3
  clear Q2 U2 X2 V2 C2 H2 Q3
  generalize w2.alloc (.cells (sc (st O) B1 q1) 27) = W3 at *
  generalize w2.heap.size = n11 at *
  clear w2
  have a0 : W3.cell? ⟨b0, 0, none⟩ = _ := (st_cells (BA.out.later H3.out)).1; have a1 : W3.cell? ⟨b0, 1, none⟩ = _ := (st_cells (BA.out.later H3.out)).2.1; have a2 : W3.cell? ⟨b0, 2, none⟩ = _ := (st_cells (BA.out.later H3.out)).2.2.1; have a3 : W3.cell? ⟨b0, 3, none⟩ = _ := (st_cells (BA.out.later H3.out)).2.2.2; have b0' : W3.cell? ⟨b0 + 1, 0, none⟩ = _ := (st_cells (BB.out.later H3.out)).1; have b1 : W3.cell? ⟨b0 + 1, 1, none⟩ = _ := (st_cells (BB.out.later H3.out)).2.1; have b2 : W3.cell? ⟨b0 + 1, 2, none⟩ = _ := (st_cells (BB.out.later H3.out)).2.2.1; have b3 : W3.cell? ⟨b0 + 1, 3, none⟩ = _ := (st_cells (BB.out.later H3.out)).2.2.2; have o0 : W3.cell? ⟨b0 + 1 + 1, 0, none⟩ = some (.int .i64 o.k) := (BO.out.later H3.out).cell 0; have o1 : W3.cell? ⟨b0 + 1 + 1, 1, none⟩ = some (.int .i64 o.s) := (BO.out.later H3.out).cell 1; have o2 : W3.cell? ⟨b0 + 1 + 1, 2, none⟩ = some (.int .i64 o.n) := (BO.out.later H3.out).cell 2; have o3 : W3.cell? ⟨b0 + 1 + 1, 3, none⟩ = some (.slice o.A o.m o.c) := (BO.out.later H3.out).cell 3
  go_upto_region 4 with fail
  obtain ⟨z, hz⟩ : ∃ z, bits BinOp.and IntKind.i64 o.k 3 = z := ⟨_, rfl⟩
  rw [hz]
  clear hz
  by_cases z0 : z = 0
  · subst z0
    obtain ⟨m, hm1, hm2, hm3⟩ := cut20 o.m
    have hmin := hm1.symm
    have hm0 : (0 : Int) ≤ (m : Int) := by omega
    have hmc : (m : Int) ≤ (o.c : Int) := by have := VO.out.c; omega
    have HM3 := Lib.hid hm3
    have VL : Hid (∀ X, Below W.heap.size W X → VR X o.A m (iv (o.l.take m))) := Lib.hid (fun X hX => by have := (VO.out.r.later hX).cut m hm2; rwa [iv_take] at this)
    have CB : Hid (∀ X, Below W.heap.size W X → Calls Try.prog 22 #[.agg #[.slice A s.t.length p, .int .i64 s.v, .int .i64 s.c, .int .i64 s.n], .slice o.A m o.c] X (OutP X (begins s (o.l.take m)))) := Lib.hid (fun X hX => pbegin_any s A p o.A m o.c _ X HRR.out (VA.out.later hX) (VL.out X hX) (by have := HM3.out; omega))
    have CR : Hid (∀ X, Below W.heap.size W X → Calls Try.prog 29 #[.agg #[.slice B s.t.length q, .int .i64 s.v, .int .i64 s.c, .int .i64 s.n], .slice o.A m o.c] X (Out X (begins s (o.l.take m)))) := Lib.hid (fun X hX => rbegin_any s B q o.A m o.c _ X (VB.out.later hX) HN.out (VL.out X hX) (by have := HM3.out; omega) HRR.out)
    clear hm1 hm2 hm3
    have hOR : ∀ r, begins s (o.l.take m) = some r → Right r := fun r hr => begins_right hr
    have HOR2 := Lib.hid hOR
    clear hOR HOR
    generalize begins s (o.l.take m) = O2 at *
    have hn1 : b0 ≠ n9 := by have := BA.out.lt; have := HN9.out; omega
    have hn2 : b0 + 1 + 1 ≠ n9 := by have := BO.out.lt; have := HN9.out; omega
    go_upto_region 5 with fail
    go_region_held3 (fun v => v.cell? ⟨b0, 0, none⟩ = some (.slice A s.t.length p) ∧ v.cell? ⟨b0, 1, none⟩ = some (.int .i64 s.v) ∧ v.cell? ⟨b0, 2, none⟩ = some (.int .i64 s.c) ∧ v.cell? ⟨b0, 3, none⟩ = some (.int .i64 s.n) ∧ v.cell? ⟨b0 + 1 + 1, 3, none⟩ = some (.slice o.A o.m o.c)) (first | exact ⟨j0, j1, j2, j3, j4⟩ | exact ⟨(cell4 X5 _ _ _ _ hn1).trans j0, (cell4 X5 _ _ _ _ hn1).trans j1, (cell4 X5 _ _ _ _ hn1).trans j2, (cell4 X5 _ _ _ _ hn1).trans j3, (cell4 X5 _ _ _ _ hn2).trans j4⟩ | go_keep) ((go_at_call 22; (with_reducible refine (CB.out _ H3.out.drew).mono ?_); rintro e5 w5 ⟨A5, p5, rfl, S5⟩; have Q5 := Lib.hid S5; have hb5 : Below W3.heap.size W3 w5 := (Below.refl W3.heap.size W3).drew.trans S5.below; have j0 := (st_cells ((BA.out.later H3.out).later hb5)).1; have j1 := (st_cells ((BA.out.later H3.out).later hb5)).2.1; have j2 := (st_cells ((BA.out.later H3.out).later hb5)).2.2.1; have j3 := (st_cells ((BA.out.later H3.out).later hb5)).2.2.2; have j4 : w5.cell? ⟨b0 + 1 + 1, 3, none⟩ = some (.slice o.A o.m o.c) := ((BO.out.later H3.out).later hb5).cell 3; have X5 := X3.out.later hb5; have x0 := X5.cell 0; have x1 := X5.cell 1; have x2 := X5.cell 2; have x3 := X5.cell 3; have f0 := X5.frozen 0; have f1 := X5.frozen 1; have f2 := X5.frozen 2; have f3 := X5.frozen 3))
    rw [set4 X5]
    have H5 := Lib.hid (below_row (H3.out.trans (hb5.mono H3.out.size)) HN9.out (sc (st O2) A5 p5))
    have X6 : Hid (Sp.Blk (w5.setRow n9 (sc (st O2) A5 p5)) n9 25 (sc (st O2) A5 p5)) := Lib.hid (X5.row _)
    have Y6 := Lib.hid ((Y3.out.later hb5).far (show n9 ≠ n11 by have := HN11.out; omega) (sc (st O2) A5 p5))
    have F5 : Hid (∀ a, A5 = some a → W3.heap.size ≤ a.block) := Lib.hid (fun a ha => row_fresh Q5.out (k := 0) rfl a ha)
    have V6 := Lib.hid (vr_far (VR.of_row Q5.out (k := 0) rfl (by rw [iv_len])) n9 (fun a ha => by have := F5.out a ha; have := X3.out.lt; omega) (sc (st O2) A5 p5))
    have HL11 := Lib.hid Y3.out.lt
    clear Q5 hb5 j0 j1 j2 j3 j4 X5 x0 x1 x2 x3 f0 f1 f2 f3 hn1 hn2
    clear a0 a1 a2 a3 b0' b1 b2 b3 o0 o1 o2 o3
    generalize w5.setRow n9 (sc (st O2) A5 p5) = W5 at *
    have a0 : W5.cell? ⟨b0, 0, none⟩ = _ := (st_cells (BA.out.later H5.out)).1; have a1 : W5.cell? ⟨b0, 1, none⟩ = _ := (st_cells (BA.out.later H5.out)).2.1; have a2 : W5.cell? ⟨b0, 2, none⟩ = _ := (st_cells (BA.out.later H5.out)).2.2.1; have a3 : W5.cell? ⟨b0, 3, none⟩ = _ := (st_cells (BA.out.later H5.out)).2.2.2; have b0' : W5.cell? ⟨b0 + 1, 0, none⟩ = _ := (st_cells (BB.out.later H5.out)).1; have b1 : W5.cell? ⟨b0 + 1, 1, none⟩ = _ := (st_cells (BB.out.later H5.out)).2.1; have b2 : W5.cell? ⟨b0 + 1, 2, none⟩ = _ := (st_cells (BB.out.later H5.out)).2.2.1; have b3 : W5.cell? ⟨b0 + 1, 3, none⟩ = _ := (st_cells (BB.out.later H5.out)).2.2.2; have o0 : W5.cell? ⟨b0 + 1 + 1, 0, none⟩ = some (.int .i64 o.k) := (BO.out.later H5.out).cell 0; have o1 : W5.cell? ⟨b0 + 1 + 1, 1, none⟩ = some (.int .i64 o.s) := (BO.out.later H5.out).cell 1; have o2 : W5.cell? ⟨b0 + 1 + 1, 2, none⟩ = some (.int .i64 o.n) := (BO.out.later H5.out).cell 2; have o3 : W5.cell? ⟨b0 + 1 + 1, 3, none⟩ = some (.slice o.A o.m o.c) := (BO.out.later H5.out).cell 3
    have hn1 : b0 + 1 ≠ n11 := by have := BB.out.lt; have := HN9.out; have := HN11.out; omega
    have hn2 : b0 + 1 + 1 ≠ n11 := by have := BO.out.lt; have := HN9.out; have := HN11.out; omega
    go_upto_region 6 with fail
    go_region_held3 (fun v => v.cell? ⟨b0 + 1, 0, none⟩ = some (.slice B s.t.length q) ∧ v.cell? ⟨b0 + 1, 1, none⟩ = some (.int .i64 s.v) ∧ v.cell? ⟨b0 + 1, 2, none⟩ = some (.int .i64 s.c) ∧ v.cell? ⟨b0 + 1, 3, none⟩ = some (.int .i64 s.n) ∧ v.cell? ⟨b0 + 1 + 1, 3, none⟩ = some (.slice o.A o.m o.c)) (first | exact ⟨j0, j1, j2, j3, j4⟩ | exact ⟨(cell4 Y7 _ _ _ _ hn1).trans j0, (cell4 Y7 _ _ _ _ hn1).trans j1, (cell4 Y7 _ _ _ _ hn1).trans j2, (cell4 Y7 _ _ _ _ hn1).trans j3, (cell4 Y7 _ _ _ _ hn2).trans j4⟩ | go_keep) ((go_at_call 29; (with_reducible refine (CR.out _ H5.out.drew).mono ?_); rintro e6 w6 ⟨A6, p6, rfl, hv6, hb6', hf6⟩; have hb6 : Below W5.heap.size W5 w6 := (Below.refl W5.heap.size W5).drew.trans hb6'; have j0 := (st_cells ((BB.out.later H5.out).later hb6)).1; have j1 := (st_cells ((BB.out.later H5.out).later hb6)).2.1; have j2 := (st_cells ((BB.out.later H5.out).later hb6)).2.2.1; have j3 := (st_cells ((BB.out.later H5.out).later hb6)).2.2.2; have j4 : w6.cell? ⟨b0 + 1 + 1, 3, none⟩ = some (.slice o.A o.m o.c) := ((BO.out.later H5.out).later hb6).cell 3; have Y7 := Y6.out.later hb6; have x0 := Y7.cell 0; have x1 := Y7.cell 1; have x2 := Y7.cell 2; have x3 := Y7.cell 3; have f0 := Y7.frozen 0; have f1 := Y7.frozen 1; have f2 := Y7.frozen 2; have f3 := Y7.frozen 3))
    rw [set4 Y7]
    have H8 := Lib.hid (below_row (H5.out.trans (hb6.mono H5.out.size)) (show W.heap.size ≤ n11 by have := HN9.out; have := HN11.out; omega) (sc (st O2) A6 p6))
    have X8 := Lib.hid ((X6.out.later hb6).far (show n11 ≠ n9 by have := HN11.out; omega) (sc (st O2) A6 p6))
    have Y8 : Hid (Sp.Blk (w6.setRow n11 (sc (st O2) A6 p6)) n11 27 (sc (st O2) A6 p6)) := Lib.hid (Y7.row _)
    have V8 := Lib.hid (vr_far (V6.out.later hb6) n11 (fun a ha => by have := F5.out a ha; have := HL11.out; omega) (sc (st O2) A6 p6))
    have U8 := Lib.hid (vr_far hv6 n11 (fun a ha => by have h1 : W5.heap.size ≤ _ := hf6 a ha; have := Y6.out.lt; omega) (sc (st O2) A6 p6))
    have F8 : Hid (∀ a, A5 = some a → W.heap.size ≤ a.block) := Lib.hid (fun a ha => by have := F5.out a ha; have := H3.out.size; omega)
    have G8 : Hid (∀ a, A6 = some a → W.heap.size ≤ a.block) := Lib.hid (fun a ha => by have h1 : W5.heap.size ≤ _ := hf6 a ha; have := H5.out.size; omega)
    clear hv6 hf6 hb6' hb6 j0 j1 j2 j3 j4 Y7 x0 x1 x2 x3 f0 f1 f2 f3 hn1 hn2
    clear a0 a1 a2 a3 b0' b1 b2 b3 o0 o1 o2 o3
    generalize w6.setRow n11 (sc (st O2) A6 p6) = W8 at *
    clear H3 H5 X3 X6 Y3 Y6 V3 V6 U3 F1 F5 G1 CB CR HL11
    have hlen : (st O2).t.length ≤ 1000 := by
      cases hh : O2 with
      | none => exact Nat.zero_le _
      | some r => have := right_len (HOR2.out r hh); show r.t.length ≤ 1000; omega
    have CF := Lib.hid (fun X => ref_any 0 (st O2).t.length p5 A5 (st O2).v (st O2).c (st O2).n X)
    have CS : Hid (∀ X, Below W8.heap.size W8 X → Calls Try.prog 26 #[.agg #[.slice A5 (st O2).t.length p5, .int .i64 (st O2).v, .int .i64 (st O2).c, .int .i64 (st O2).n], .agg #[.slice A6 (st O2).t.length p6, .int .i64 (st O2).v, .int .i64 (st O2).c, .int .i64 (st O2).n]] X fun e w' => e = .returned (.bool true) ∧ Below X.heap.size X w') := Lib.hid (fun X hX => rsame_any (st O2) (st O2) A5 p5 A6 p6 X (V8.out.later hX) (U8.out.later hX) hlen true (by simp))
    clear hlen
    have hne : (er O2 != er O2) = false := by simp
    have I : Below W8.heap.size W8 { W8 with drawn := W8.drawn + 1 } := (Below.refl _ _).drew
    have hne0 : Nonempty (In (fun X => Below W8.heap.size W8 X)) := ⟨⟨_, I⟩⟩
    have m0 : ∀ jj : In (fun X => Below W8.heap.size W8 X), jj.W.cell? ⟨n9, 0, none⟩ = some (.slice A5 (st O2).t.length p5) := fun jj => (st_cells (X8.out.later jj.h)).1
    have m1 : ∀ jj : In (fun X => Below W8.heap.size W8 X), jj.W.cell? ⟨n9, 1, none⟩ = some (.int .i64 (st O2).v) := fun jj => (st_cells (X8.out.later jj.h)).2.1
    have m2 : ∀ jj : In (fun X => Below W8.heap.size W8 X), jj.W.cell? ⟨n9, 2, none⟩ = some (.int .i64 (st O2).c) := fun jj => (st_cells (X8.out.later jj.h)).2.2.1
    have m3 : ∀ jj : In (fun X => Below W8.heap.size W8 X), jj.W.cell? ⟨n9, 3, none⟩ = some (.int .i64 (st O2).n) := fun jj => (st_cells (X8.out.later jj.h)).2.2.2
    have r0 : ∀ jj : In (fun X => Below W8.heap.size W8 X), jj.W.cell? ⟨n11, 0, none⟩ = some (.slice A6 (st O2).t.length p6) := fun jj => (st_cells (Y8.out.later jj.h)).1
    have r1 : ∀ jj : In (fun X => Below W8.heap.size W8 X), jj.W.cell? ⟨n11, 1, none⟩ = some (.int .i64 (st O2).v) := fun jj => (st_cells (Y8.out.later jj.h)).2.1
    have r2 : ∀ jj : In (fun X => Below W8.heap.size W8 X), jj.W.cell? ⟨n11, 2, none⟩ = some (.int .i64 (st O2).c) := fun jj => (st_cells (Y8.out.later jj.h)).2.2.1
    have r3 : ∀ jj : In (fun X => Below W8.heap.size W8 X), jj.W.cell? ⟨n11, 3, none⟩ = some (.int .i64 (st O2).n) := fun jj => (st_cells (Y8.out.later jj.h)).2.2.2
    go_upto_region 13 with fail
    refine region_class (fun X => Below W8.heap.size W8 X) (by kernel_rfl) (by kernel_rfl) I ?_
    repeat (go_big_quiet_step (first
      | (go_at_call 21; with_reducible exact class_call _ (fun hi => (CF.out _).mono fun _ _ ⟨he, hb⟩ => ⟨he, hi.trans (hb.mono hi.size)⟩))
      | (go_at_call 26; with_reducible exact class_call _ (fun hi => (CS.out _ hi).mono fun _ _ ⟨he, hb⟩ => ⟨he, hi.trans (hb.mono hi.size)⟩))))
    refine wpQuiet_nil ?_
    rintro _ ⟨jj, rfl⟩
    have H9 := Lib.hid jj.h
    clear m0 m1 m2 m3 r0 r1 r2 r3 I hne0 hne CF CS
    generalize jj.W = W9 at *
    clear jj
    have HK := Lib.hid (H8.out.trans (H9.out.mono H8.out.size))
    have a0 : W9.cell? ⟨b0, 0, none⟩ = _ := (st_cells (BA.out.later HK.out)).1; have a1 : W9.cell? ⟨b0, 1, none⟩ = _ := (st_cells (BA.out.later HK.out)).2.1; have a2 : W9.cell? ⟨b0, 2, none⟩ = _ := (st_cells (BA.out.later HK.out)).2.2.1; have a3 : W9.cell? ⟨b0, 3, none⟩ = _ := (st_cells (BA.out.later HK.out)).2.2.2; have b0' : W9.cell? ⟨b0 + 1, 0, none⟩ = _ := (st_cells (BB.out.later HK.out)).1; have b1 : W9.cell? ⟨b0 + 1, 1, none⟩ = _ := (st_cells (BB.out.later HK.out)).2.1; have b2 : W9.cell? ⟨b0 + 1, 2, none⟩ = _ := (st_cells (BB.out.later HK.out)).2.2.1; have b3 : W9.cell? ⟨b0 + 1, 3, none⟩ = _ := (st_cells (BB.out.later HK.out)).2.2.2; have o0 : W9.cell? ⟨b0 + 1 + 1, 0, none⟩ = some (.int .i64 o.k) := (BO.out.later HK.out).cell 0; have o1 : W9.cell? ⟨b0 + 1 + 1, 1, none⟩ = some (.int .i64 o.s) := (BO.out.later HK.out).cell 1; have o2 : W9.cell? ⟨b0 + 1 + 1, 2, none⟩ = some (.int .i64 o.n) := (BO.out.later HK.out).cell 2; have o3 : W9.cell? ⟨b0 + 1 + 1, 3, none⟩ = some (.slice o.A o.m o.c) := (BO.out.later HK.out).cell 3
    have x0 := (BX.out.later HK.out).cell 0
    have x1 := (BX.out.later HK.out).cell 1
    have x2 := (BX.out.later HK.out).cell 2
    have x3 := (BX.out.later HK.out).cell 3
    have f0 := (BX.out.later HK.out).frozen 0
    have f1 := (BX.out.later HK.out).frozen 1
    have f2 := (BX.out.later HK.out).frozen 2
    have f3 := (BX.out.later HK.out).frozen 3
    have y0 := (BY.out.later HK.out).cell 0
    have y1 := (BY.out.later HK.out).cell 1
    have y2 := (BY.out.later HK.out).cell 2
    have y3 := (BY.out.later HK.out).cell 3
    have g0 := (BY.out.later HK.out).frozen 0
    have g1 := (BY.out.later HK.out).frozen 1
    have g2 := (BY.out.later HK.out).frozen 2
    have g3 := (BY.out.later HK.out).frozen 3
    have m0 := (st_cells (X8.out.later H9.out)).1
    have m1 := (st_cells (X8.out.later H9.out)).2.1
    have m2 := (st_cells (X8.out.later H9.out)).2.2.1
    have m3 := (st_cells (X8.out.later H9.out)).2.2.2
    have r0 := (st_cells (Y8.out.later H9.out)).1
    have r1 := (st_cells (Y8.out.later H9.out)).2.1
    have r2 := (st_cells (Y8.out.later H9.out)).2.2.1
    have r3 := (st_cells (Y8.out.later H9.out)).2.2.2
    have HB9 := Lib.hid (HB.out.trans (HK.out.mono HB.out.size))
    have hl3 := BX.out.lt
    have hl4 := BY.out.lt
    have hn9 := HN9.out
    have hn11 := HN11.out
    have hz0 := HZ.out
    have XX := BX.out.later HK.out
    have YY := BY.out.later HK.out
    cases hh : O2 with
    | none =>
      rw [hh] at m0 m1 m2 m3 r0 r1 r2 r3
      have hz : (er none != 0) = true := by decide
      go_upto_region 16 with fail
      go_region
      rw [set4 XX, set4 (YY.far (show b0 + 1 + 1 + 1 ≠ b0 + 1 + 1 + 1 + 1 by omega) _)]
      go_wp2_with fail
      have hbf := (below_row (below_row HB9.out (show w.heap.size ≤ b0 + 1 + 1 + 1 by omega) (sc s A p)) (show w.heap.size ≤ b0 + 1 + 1 + 1 + 1 by omega) (sc s B q)).drew
      refine bodyPost_ret (res_3 rfl _ _ _ _ rfl rfl rfl ((XX.row _).far (show b0 + 1 + 1 + 1 + 1 ≠ b0 + 1 + 1 + 1 by omega) _) ((YY.far (show b0 + 1 + 1 + 1 ≠ b0 + 1 + 1 + 1 + 1 by omega) _).row _)) rfl ?_
      exact ⟨s, A, p, B, q, HRR.out, rfl, HA0.out.later hbf, HB0.out.later hbf, hbf, .inl ⟨rfl, rfl⟩, .inl ⟨rfl, rfl⟩⟩
    | some r =>
      rw [hh] at m0 m1 m2 m3 r0 r1 r2 r3
      simp only [st, Option.getD_some] at m0 m1 m2 m3 r0 r1 r2 r3
      have hz : (er (some r) != 0) = false := rfl
      have v1 := V8.out.later H9.out
      have v2 := U8.out.later H9.out
      rw [hh] at v1 v2
      have hr := HOR2.out r hh
      go_upto_region 17 with fail
      have nq1 : ¬ (b0 + 1 + 1 + 1 = n9) := by omega
      have nq2 : ¬ (b0 + 1 + 1 + 1 + 1 = n9) := by omega
      have nq3 : ¬ (b0 + 1 + 1 + 1 = n11) := by omega
      have nq4 : ¬ (b0 + 1 + 1 + 1 + 1 = n11) := by omega
      go_region
      rw [set4 XX, set4 (YY.far (show b0 + 1 + 1 + 1 ≠ b0 + 1 + 1 + 1 + 1 by omega) _)]
      go_wp2_with fail
      have hbf := (below_row (below_row HB9.out (show w.heap.size ≤ b0 + 1 + 1 + 1 by omega) (sc r A5 p5)) (show w.heap.size ≤ b0 + 1 + 1 + 1 + 1 by omega) (sc r A6 p6)).drew
      refine bodyPost_ret (res_3 rfl _ _ _ _ rfl rfl rfl ((XX.row _).far (show b0 + 1 + 1 + 1 + 1 ≠ b0 + 1 + 1 + 1 by omega) _) ((YY.far (show b0 + 1 + 1 + 1 ≠ b0 + 1 + 1 + 1 + 1 by omega) _).row _)) rfl ?_
      have d1 : ∀ X : World, Below X.heap.size X X.drew := fun X => (Below.refl _ _).drew
      refine ⟨r, A5, p5, A6, p6, hr, rfl, (vr_far (vr_far v1 _ (fun a ha => by have := F8.out a ha; omega) _) _ (fun a ha => by have := F8.out a ha; omega) _).later (d1 _), (vr_far (vr_far v2 _ (fun a ha => by have := G8.out a ha; omega) _) _ (fun a ha => by have := G8.out a ha; omega) _).later (d1 _), hbf, .inr (fun a ha => Nat.le_trans HB.out.size (F8.out a ha)), .inr (fun a ha => Nat.le_trans HB.out.size (G8.out a ha))⟩
  by_cases z1 : z = 1
  · subst z1
    clear z0
    have CB := Lib.hid (ptake_any s A p o.s o.n W3 HRR.out (VA.out.later H3.out))
    have CR : Hid (∀ X, Below W.heap.size W X → Calls Try.prog 30 #[.agg (sc s B q), .int .i64 o.s, .int .i64 o.n] X (Out X (takes s o.s o.n))) := Lib.hid (fun X hX => rtake_any s B q o.s o.n X (VB.out.later hX) HN.out)
    have hOR : ∀ r, takes s o.s o.n = some r → Right r := fun r hr => takes_right HRR.out hr
    have HOR2 := Lib.hid hOR
    clear hOR HOR
    generalize takes s o.s o.n = O2 at *
    have x9 := X3.out
    go_upto_region 9 with (first
      | (go_at_call 23; refine CB.out.mono ?_; rintro e5 w5 ⟨A5, p5, rfl, S5⟩; have Q5 := Lib.hid S5; clear S5; have x9 := X3.out.later Q5.out.below)
      | (with_reducible refine store_p rfl (.tmp 9) (.tmp 61) rfl n9 rfl rfl x9 ?_))
    have hb5 := Q5.out.below
    have H5 := Lib.hid (below_row (H3.out.trans (hb5.mono H3.out.size)) HN9.out (sc (st O2) A5 p5))
    have X6 : Hid (Sp.Blk (w5.setRow n9 (sc (st O2) A5 p5)) n9 25 (sc (st O2) A5 p5)) := Lib.hid (x9.row _)
    have Y6 := Lib.hid ((Y3.out.later hb5).far (show n9 ≠ n11 by have := HN11.out; omega) (sc (st O2) A5 p5))
    have F5 : Hid (∀ a, A5 = some a → W3.heap.size ≤ a.block) := Lib.hid (fun a ha => row_fresh Q5.out (k := 0) rfl a ha)
    have V6 := Lib.hid (vr_far (VR.of_row Q5.out (k := 0) rfl (by rw [iv_len])) n9 (fun a ha => by have := F5.out a ha; have := X3.out.lt; omega) (sc (st O2) A5 p5))
    have HL11 := Lib.hid Y3.out.lt
    change Code.wp _ _ _ _ (w5.setRow n9 (sc (st O2) A5 p5))
    clear Q5 hb5 x9
    clear a0 a1 a2 a3 b0' b1 b2 b3 o0 o1 o2 o3
    generalize w5.setRow n9 (sc (st O2) A5 p5) = W5 at *
    have a0 : W5.cell? ⟨b0, 0, none⟩ = _ := (st_cells (BA.out.later H5.out)).1; have a1 : W5.cell? ⟨b0, 1, none⟩ = _ := (st_cells (BA.out.later H5.out)).2.1; have a2 : W5.cell? ⟨b0, 2, none⟩ = _ := (st_cells (BA.out.later H5.out)).2.2.1; have a3 : W5.cell? ⟨b0, 3, none⟩ = _ := (st_cells (BA.out.later H5.out)).2.2.2; have b0' : W5.cell? ⟨b0 + 1, 0, none⟩ = _ := (st_cells (BB.out.later H5.out)).1; have b1 : W5.cell? ⟨b0 + 1, 1, none⟩ = _ := (st_cells (BB.out.later H5.out)).2.1; have b2 : W5.cell? ⟨b0 + 1, 2, none⟩ = _ := (st_cells (BB.out.later H5.out)).2.2.1; have b3 : W5.cell? ⟨b0 + 1, 3, none⟩ = _ := (st_cells (BB.out.later H5.out)).2.2.2; have o0 : W5.cell? ⟨b0 + 1 + 1, 0, none⟩ = some (.int .i64 o.k) := (BO.out.later H5.out).cell 0; have o1 : W5.cell? ⟨b0 + 1 + 1, 1, none⟩ = some (.int .i64 o.s) := (BO.out.later H5.out).cell 1; have o2 : W5.cell? ⟨b0 + 1 + 1, 2, none⟩ = some (.int .i64 o.n) := (BO.out.later H5.out).cell 2; have o3 : W5.cell? ⟨b0 + 1 + 1, 3, none⟩ = some (.slice o.A o.m o.c) := (BO.out.later H5.out).cell 3
    go_upto_region 13 with (first
      | (go_at_call 30; refine (CR.out _ H5.out).mono ?_; rintro e6 w6 ⟨A6, p6, rfl, hv6, hb6, hf6⟩; have y9 := Y6.out.later hb6)
      | (with_reducible refine store_r rfl (.tmp 11) (.tmp 70) rfl n11 rfl rfl y9 ?_))
    have H8 := Lib.hid (below_row (H5.out.trans (hb6.mono H5.out.size)) (show W.heap.size ≤ n11 by have := HN9.out; have := HN11.out; omega) (sc (st O2) A6 p6))
    have X8 := Lib.hid ((X6.out.later hb6).far (show n11 ≠ n9 by have := HN11.out; omega) (sc (st O2) A6 p6))
    have Y8 : Hid (Sp.Blk (w6.setRow n11 (sc (st O2) A6 p6)) n11 27 (sc (st O2) A6 p6)) := Lib.hid (y9.row _)
    have V8 := Lib.hid (vr_far (V6.out.later hb6) n11 (fun a ha => by have := F5.out a ha; have := HL11.out; omega) (sc (st O2) A6 p6))
    have U8 := Lib.hid (vr_far hv6 n11 (fun a ha => by have h1 : W5.heap.size ≤ _ := hf6 a ha; have := Y6.out.lt; omega) (sc (st O2) A6 p6))
    have F8 : Hid (∀ a, A5 = some a → W.heap.size ≤ a.block) := Lib.hid (fun a ha => by have := F5.out a ha; have := H3.out.size; omega)
    have G8 : Hid (∀ a, A6 = some a → W.heap.size ≤ a.block) := Lib.hid (fun a ha => by have h1 : W5.heap.size ≤ _ := hf6 a ha; have := H5.out.size; omega)
    change Code.wp _ _ _ _ (w6.setRow n11 (sc (st O2) A6 p6))
    clear hv6 hf6 hb6 y9
    clear a0 a1 a2 a3 b0' b1 b2 b3 o0 o1 o2 o3
    generalize w6.setRow n11 (sc (st O2) A6 p6) = W8 at *
    clear H3 H5 X3 X6 Y3 Y6 V3 V6 U3 F1 F5 G1 CB CR HL11
    have hlen : (st O2).t.length ≤ 1000 := by
      cases hh : O2 with
      | none => exact Nat.zero_le _
      | some r => have := right_len (HOR2.out r hh); show r.t.length ≤ 1000; omega
    have CF := Lib.hid (fun X => ref_any 0 (st O2).t.length p5 A5 (st O2).v (st O2).c (st O2).n X)
    have CS : Hid (∀ X, Below W8.heap.size W8 X → Calls Try.prog 26 #[.agg #[.slice A5 (st O2).t.length p5, .int .i64 (st O2).v, .int .i64 (st O2).c, .int .i64 (st O2).n], .agg #[.slice A6 (st O2).t.length p6, .int .i64 (st O2).v, .int .i64 (st O2).c, .int .i64 (st O2).n]] X fun e w' => e = .returned (.bool true) ∧ Below X.heap.size X w') := Lib.hid (fun X hX => rsame_any (st O2) (st O2) A5 p5 A6 p6 X (V8.out.later hX) (U8.out.later hX) hlen true (by simp))
    clear hlen
    have hne : (er O2 != er O2) = false := by simp
    have I : Below W8.heap.size W8 { W8 with drawn := W8.drawn + 1 } := (Below.refl _ _).drew
    have hne0 : Nonempty (In (fun X => Below W8.heap.size W8 X)) := ⟨⟨_, I⟩⟩
    have m0 : ∀ jj : In (fun X => Below W8.heap.size W8 X), jj.W.cell? ⟨n9, 0, none⟩ = some (.slice A5 (st O2).t.length p5) := fun jj => (st_cells (X8.out.later jj.h)).1
    have m1 : ∀ jj : In (fun X => Below W8.heap.size W8 X), jj.W.cell? ⟨n9, 1, none⟩ = some (.int .i64 (st O2).v) := fun jj => (st_cells (X8.out.later jj.h)).2.1
    have m2 : ∀ jj : In (fun X => Below W8.heap.size W8 X), jj.W.cell? ⟨n9, 2, none⟩ = some (.int .i64 (st O2).c) := fun jj => (st_cells (X8.out.later jj.h)).2.2.1
    have m3 : ∀ jj : In (fun X => Below W8.heap.size W8 X), jj.W.cell? ⟨n9, 3, none⟩ = some (.int .i64 (st O2).n) := fun jj => (st_cells (X8.out.later jj.h)).2.2.2
    have r0 : ∀ jj : In (fun X => Below W8.heap.size W8 X), jj.W.cell? ⟨n11, 0, none⟩ = some (.slice A6 (st O2).t.length p6) := fun jj => (st_cells (Y8.out.later jj.h)).1
    have r1 : ∀ jj : In (fun X => Below W8.heap.size W8 X), jj.W.cell? ⟨n11, 1, none⟩ = some (.int .i64 (st O2).v) := fun jj => (st_cells (Y8.out.later jj.h)).2.1
    have r2 : ∀ jj : In (fun X => Below W8.heap.size W8 X), jj.W.cell? ⟨n11, 2, none⟩ = some (.int .i64 (st O2).c) := fun jj => (st_cells (Y8.out.later jj.h)).2.2.1
    have r3 : ∀ jj : In (fun X => Below W8.heap.size W8 X), jj.W.cell? ⟨n11, 3, none⟩ = some (.int .i64 (st O2).n) := fun jj => (st_cells (Y8.out.later jj.h)).2.2.2
    go_upto_region 13 with fail
    refine region_class (fun X => Below W8.heap.size W8 X) (by kernel_rfl) (by kernel_rfl) I ?_
    repeat (go_big_quiet_step (first
      | (go_at_call 21; with_reducible exact class_call _ (fun hi => (CF.out _).mono fun _ _ ⟨he, hb⟩ => ⟨he, hi.trans (hb.mono hi.size)⟩))
      | (go_at_call 26; with_reducible exact class_call _ (fun hi => (CS.out _ hi).mono fun _ _ ⟨he, hb⟩ => ⟨he, hi.trans (hb.mono hi.size)⟩))))
    refine wpQuiet_nil ?_
    rintro _ ⟨jj, rfl⟩
    have H9 := Lib.hid jj.h
    clear m0 m1 m2 m3 r0 r1 r2 r3 I hne0 hne CF CS
    generalize jj.W = W9 at *
    clear jj
    have HK := Lib.hid (H8.out.trans (H9.out.mono H8.out.size))
    have a0 : W9.cell? ⟨b0, 0, none⟩ = _ := (st_cells (BA.out.later HK.out)).1; have a1 : W9.cell? ⟨b0, 1, none⟩ = _ := (st_cells (BA.out.later HK.out)).2.1; have a2 : W9.cell? ⟨b0, 2, none⟩ = _ := (st_cells (BA.out.later HK.out)).2.2.1; have a3 : W9.cell? ⟨b0, 3, none⟩ = _ := (st_cells (BA.out.later HK.out)).2.2.2; have b0' : W9.cell? ⟨b0 + 1, 0, none⟩ = _ := (st_cells (BB.out.later HK.out)).1; have b1 : W9.cell? ⟨b0 + 1, 1, none⟩ = _ := (st_cells (BB.out.later HK.out)).2.1; have b2 : W9.cell? ⟨b0 + 1, 2, none⟩ = _ := (st_cells (BB.out.later HK.out)).2.2.1; have b3 : W9.cell? ⟨b0 + 1, 3, none⟩ = _ := (st_cells (BB.out.later HK.out)).2.2.2; have o0 : W9.cell? ⟨b0 + 1 + 1, 0, none⟩ = some (.int .i64 o.k) := (BO.out.later HK.out).cell 0; have o1 : W9.cell? ⟨b0 + 1 + 1, 1, none⟩ = some (.int .i64 o.s) := (BO.out.later HK.out).cell 1; have o2 : W9.cell? ⟨b0 + 1 + 1, 2, none⟩ = some (.int .i64 o.n) := (BO.out.later HK.out).cell 2; have o3 : W9.cell? ⟨b0 + 1 + 1, 3, none⟩ = some (.slice o.A o.m o.c) := (BO.out.later HK.out).cell 3
    have x0 := (BX.out.later HK.out).cell 0
    have x1 := (BX.out.later HK.out).cell 1
    have x2 := (BX.out.later HK.out).cell 2
    have x3 := (BX.out.later HK.out).cell 3
    have f0 := (BX.out.later HK.out).frozen 0
    have f1 := (BX.out.later HK.out).frozen 1
    have f2 := (BX.out.later HK.out).frozen 2
    have f3 := (BX.out.later HK.out).frozen 3
    have y0 := (BY.out.later HK.out).cell 0
    have y1 := (BY.out.later HK.out).cell 1
    have y2 := (BY.out.later HK.out).cell 2
    have y3 := (BY.out.later HK.out).cell 3
    have g0 := (BY.out.later HK.out).frozen 0
    have g1 := (BY.out.later HK.out).frozen 1
    have g2 := (BY.out.later HK.out).frozen 2
    have g3 := (BY.out.later HK.out).frozen 3
    have m0 := (st_cells (X8.out.later H9.out)).1
    have m1 := (st_cells (X8.out.later H9.out)).2.1
    have m2 := (st_cells (X8.out.later H9.out)).2.2.1
    have m3 := (st_cells (X8.out.later H9.out)).2.2.2
    have r0 := (st_cells (Y8.out.later H9.out)).1
    have r1 := (st_cells (Y8.out.later H9.out)).2.1
    have r2 := (st_cells (Y8.out.later H9.out)).2.2.1
    have r3 := (st_cells (Y8.out.later H9.out)).2.2.2
    have HB9 := Lib.hid (HB.out.trans (HK.out.mono HB.out.size))
    have hl3 := BX.out.lt
    have hl4 := BY.out.lt
    have hn9 := HN9.out
    have hn11 := HN11.out
    have hz0 := HZ.out
    have XX := BX.out.later HK.out
    have YY := BY.out.later HK.out
    cases hh : O2 with
    | none =>
      rw [hh] at m0 m1 m2 m3 r0 r1 r2 r3
      have hz : (er none != 0) = true := by decide
      go_upto_region 16 with fail
      go_region
      rw [set4 XX, set4 (YY.far (show b0 + 1 + 1 + 1 ≠ b0 + 1 + 1 + 1 + 1 by omega) _)]
      go_wp2_with fail
      have hbf := (below_row (below_row HB9.out (show w.heap.size ≤ b0 + 1 + 1 + 1 by omega) (sc s A p)) (show w.heap.size ≤ b0 + 1 + 1 + 1 + 1 by omega) (sc s B q)).drew
      refine bodyPost_ret (res_3 rfl _ _ _ _ rfl rfl rfl ((XX.row _).far (show b0 + 1 + 1 + 1 + 1 ≠ b0 + 1 + 1 + 1 by omega) _) ((YY.far (show b0 + 1 + 1 + 1 ≠ b0 + 1 + 1 + 1 + 1 by omega) _).row _)) rfl ?_
      exact ⟨s, A, p, B, q, HRR.out, rfl, HA0.out.later hbf, HB0.out.later hbf, hbf, .inl ⟨rfl, rfl⟩, .inl ⟨rfl, rfl⟩⟩
    | some r =>
      rw [hh] at m0 m1 m2 m3 r0 r1 r2 r3
      simp only [st, Option.getD_some] at m0 m1 m2 m3 r0 r1 r2 r3
      have hz : (er (some r) != 0) = false := rfl
      have v1 := V8.out.later H9.out
      have v2 := U8.out.later H9.out
      rw [hh] at v1 v2
      have hr := HOR2.out r hh
      go_upto_region 17 with fail
      have nq1 : ¬ (b0 + 1 + 1 + 1 = n9) := by omega
      have nq2 : ¬ (b0 + 1 + 1 + 1 + 1 = n9) := by omega
      have nq3 : ¬ (b0 + 1 + 1 + 1 = n11) := by omega
      have nq4 : ¬ (b0 + 1 + 1 + 1 + 1 = n11) := by omega
      go_region
      rw [set4 XX, set4 (YY.far (show b0 + 1 + 1 + 1 ≠ b0 + 1 + 1 + 1 + 1 by omega) _)]
      go_wp2_with fail
      have hbf := (below_row (below_row HB9.out (show w.heap.size ≤ b0 + 1 + 1 + 1 by omega) (sc r A5 p5)) (show w.heap.size ≤ b0 + 1 + 1 + 1 + 1 by omega) (sc r A6 p6)).drew
      refine bodyPost_ret (res_3 rfl _ _ _ _ rfl rfl rfl ((XX.row _).far (show b0 + 1 + 1 + 1 + 1 ≠ b0 + 1 + 1 + 1 by omega) _) ((YY.far (show b0 + 1 + 1 + 1 ≠ b0 + 1 + 1 + 1 + 1 by omega) _).row _)) rfl ?_
      have d1 : ∀ X : World, Below X.heap.size X X.drew := fun X => (Below.refl _ _).drew
      refine ⟨r, A5, p5, A6, p6, hr, rfl, (vr_far (vr_far v1 _ (fun a ha => by have := F8.out a ha; omega) _) _ (fun a ha => by have := F8.out a ha; omega) _).later (d1 _), (vr_far (vr_far v2 _ (fun a ha => by have := G8.out a ha; omega) _) _ (fun a ha => by have := G8.out a ha; omega) _).later (d1 _), hbf, .inr (fun a ha => Nat.le_trans HB.out.size (F8.out a ha)), .inr (fun a ha => Nat.le_trans HB.out.size (G8.out a ha))⟩
  by_cases z2 : z = 2
  · subst z2
    clear z0 z1
    have CB := Lib.hid (pgiven_any s A p W3 HRR.out (VA.out.later H3.out))
    have CR : Hid (∀ X, Below W.heap.size W X → Calls Try.prog 31 #[.agg (sc s B q)] X (Out X (gives s))) := Lib.hid (fun X hX => rgiven_any s B q X (VB.out.later hX) HN.out)
    have hOR : ∀ r, gives s = some r → Right r := fun r hr => gives_right HRR.out hr
    have HOR2 := Lib.hid hOR
    clear hOR HOR
    generalize gives s = O2 at *
    have x9 := X3.out
    go_upto_region 12 with (first
      | (go_at_call 25; refine CB.out.mono ?_; rintro e5 w5 ⟨A5, p5, rfl, S5⟩; have Q5 := Lib.hid S5; clear S5; have x9 := X3.out.later Q5.out.below)
      | (with_reducible refine store_p rfl (.tmp 9) (.tmp 77) rfl n9 rfl rfl x9 ?_))
    have hb5 := Q5.out.below
    have H5 := Lib.hid (below_row (H3.out.trans (hb5.mono H3.out.size)) HN9.out (sc (st O2) A5 p5))
    have X6 : Hid (Sp.Blk (w5.setRow n9 (sc (st O2) A5 p5)) n9 25 (sc (st O2) A5 p5)) := Lib.hid (x9.row _)
    have Y6 := Lib.hid ((Y3.out.later hb5).far (show n9 ≠ n11 by have := HN11.out; omega) (sc (st O2) A5 p5))
    have F5 : Hid (∀ a, A5 = some a → W3.heap.size ≤ a.block) := Lib.hid (fun a ha => row_fresh Q5.out (k := 0) rfl a ha)
    have V6 := Lib.hid (vr_far (VR.of_row Q5.out (k := 0) rfl (by rw [iv_len])) n9 (fun a ha => by have := F5.out a ha; have := X3.out.lt; omega) (sc (st O2) A5 p5))
    have HL11 := Lib.hid Y3.out.lt
    change Code.wp _ _ _ _ (w5.setRow n9 (sc (st O2) A5 p5))
    clear Q5 hb5 x9
    clear a0 a1 a2 a3 b0' b1 b2 b3 o0 o1 o2 o3
    generalize w5.setRow n9 (sc (st O2) A5 p5) = W5 at *
    have a0 : W5.cell? ⟨b0, 0, none⟩ = _ := (st_cells (BA.out.later H5.out)).1; have a1 : W5.cell? ⟨b0, 1, none⟩ = _ := (st_cells (BA.out.later H5.out)).2.1; have a2 : W5.cell? ⟨b0, 2, none⟩ = _ := (st_cells (BA.out.later H5.out)).2.2.1; have a3 : W5.cell? ⟨b0, 3, none⟩ = _ := (st_cells (BA.out.later H5.out)).2.2.2; have b0' : W5.cell? ⟨b0 + 1, 0, none⟩ = _ := (st_cells (BB.out.later H5.out)).1; have b1 : W5.cell? ⟨b0 + 1, 1, none⟩ = _ := (st_cells (BB.out.later H5.out)).2.1; have b2 : W5.cell? ⟨b0 + 1, 2, none⟩ = _ := (st_cells (BB.out.later H5.out)).2.2.1; have b3 : W5.cell? ⟨b0 + 1, 3, none⟩ = _ := (st_cells (BB.out.later H5.out)).2.2.2; have o0 : W5.cell? ⟨b0 + 1 + 1, 0, none⟩ = some (.int .i64 o.k) := (BO.out.later H5.out).cell 0; have o1 : W5.cell? ⟨b0 + 1 + 1, 1, none⟩ = some (.int .i64 o.s) := (BO.out.later H5.out).cell 1; have o2 : W5.cell? ⟨b0 + 1 + 1, 2, none⟩ = some (.int .i64 o.n) := (BO.out.later H5.out).cell 2; have o3 : W5.cell? ⟨b0 + 1 + 1, 3, none⟩ = some (.slice o.A o.m o.c) := (BO.out.later H5.out).cell 3
    go_upto_region 13 with (first
      | (go_at_call 31; refine (CR.out _ H5.out).mono ?_; rintro e6 w6 ⟨A6, p6, rfl, hv6, hb6, hf6⟩; have y9 := Y6.out.later hb6)
      | (with_reducible refine store_r rfl (.tmp 11) (.tmp 82) rfl n11 rfl rfl y9 ?_))
    have H8 := Lib.hid (below_row (H5.out.trans (hb6.mono H5.out.size)) (show W.heap.size ≤ n11 by have := HN9.out; have := HN11.out; omega) (sc (st O2) A6 p6))
    have X8 := Lib.hid ((X6.out.later hb6).far (show n11 ≠ n9 by have := HN11.out; omega) (sc (st O2) A6 p6))
    have Y8 : Hid (Sp.Blk (w6.setRow n11 (sc (st O2) A6 p6)) n11 27 (sc (st O2) A6 p6)) := Lib.hid (y9.row _)
    have V8 := Lib.hid (vr_far (V6.out.later hb6) n11 (fun a ha => by have := F5.out a ha; have := HL11.out; omega) (sc (st O2) A6 p6))
    have U8 := Lib.hid (vr_far hv6 n11 (fun a ha => by have h1 : W5.heap.size ≤ _ := hf6 a ha; have := Y6.out.lt; omega) (sc (st O2) A6 p6))
    have F8 : Hid (∀ a, A5 = some a → W.heap.size ≤ a.block) := Lib.hid (fun a ha => by have := F5.out a ha; have := H3.out.size; omega)
    have G8 : Hid (∀ a, A6 = some a → W.heap.size ≤ a.block) := Lib.hid (fun a ha => by have h1 : W5.heap.size ≤ _ := hf6 a ha; have := H5.out.size; omega)
    change Code.wp _ _ _ _ (w6.setRow n11 (sc (st O2) A6 p6))
    clear hv6 hf6 hb6 y9
    clear a0 a1 a2 a3 b0' b1 b2 b3 o0 o1 o2 o3
    generalize w6.setRow n11 (sc (st O2) A6 p6) = W8 at *
    clear H3 H5 X3 X6 Y3 Y6 V3 V6 U3 F1 F5 G1 CB CR HL11
    have hlen : (st O2).t.length ≤ 1000 := by
      cases hh : O2 with
      | none => exact Nat.zero_le _
      | some r => have := right_len (HOR2.out r hh); show r.t.length ≤ 1000; omega
    have CF := Lib.hid (fun X => ref_any 0 (st O2).t.length p5 A5 (st O2).v (st O2).c (st O2).n X)
    have CS : Hid (∀ X, Below W8.heap.size W8 X → Calls Try.prog 26 #[.agg #[.slice A5 (st O2).t.length p5, .int .i64 (st O2).v, .int .i64 (st O2).c, .int .i64 (st O2).n], .agg #[.slice A6 (st O2).t.length p6, .int .i64 (st O2).v, .int .i64 (st O2).c, .int .i64 (st O2).n]] X fun e w' => e = .returned (.bool true) ∧ Below X.heap.size X w') := Lib.hid (fun X hX => rsame_any (st O2) (st O2) A5 p5 A6 p6 X (V8.out.later hX) (U8.out.later hX) hlen true (by simp))
    clear hlen
    have hne : (er O2 != er O2) = false := by simp
    have I : Below W8.heap.size W8 { W8 with drawn := W8.drawn + 1 } := (Below.refl _ _).drew
    have hne0 : Nonempty (In (fun X => Below W8.heap.size W8 X)) := ⟨⟨_, I⟩⟩
    have m0 : ∀ jj : In (fun X => Below W8.heap.size W8 X), jj.W.cell? ⟨n9, 0, none⟩ = some (.slice A5 (st O2).t.length p5) := fun jj => (st_cells (X8.out.later jj.h)).1
    have m1 : ∀ jj : In (fun X => Below W8.heap.size W8 X), jj.W.cell? ⟨n9, 1, none⟩ = some (.int .i64 (st O2).v) := fun jj => (st_cells (X8.out.later jj.h)).2.1
    have m2 : ∀ jj : In (fun X => Below W8.heap.size W8 X), jj.W.cell? ⟨n9, 2, none⟩ = some (.int .i64 (st O2).c) := fun jj => (st_cells (X8.out.later jj.h)).2.2.1
    have m3 : ∀ jj : In (fun X => Below W8.heap.size W8 X), jj.W.cell? ⟨n9, 3, none⟩ = some (.int .i64 (st O2).n) := fun jj => (st_cells (X8.out.later jj.h)).2.2.2
    have r0 : ∀ jj : In (fun X => Below W8.heap.size W8 X), jj.W.cell? ⟨n11, 0, none⟩ = some (.slice A6 (st O2).t.length p6) := fun jj => (st_cells (Y8.out.later jj.h)).1
    have r1 : ∀ jj : In (fun X => Below W8.heap.size W8 X), jj.W.cell? ⟨n11, 1, none⟩ = some (.int .i64 (st O2).v) := fun jj => (st_cells (Y8.out.later jj.h)).2.1
    have r2 : ∀ jj : In (fun X => Below W8.heap.size W8 X), jj.W.cell? ⟨n11, 2, none⟩ = some (.int .i64 (st O2).c) := fun jj => (st_cells (Y8.out.later jj.h)).2.2.1
    have r3 : ∀ jj : In (fun X => Below W8.heap.size W8 X), jj.W.cell? ⟨n11, 3, none⟩ = some (.int .i64 (st O2).n) := fun jj => (st_cells (Y8.out.later jj.h)).2.2.2
    go_upto_region 13 with fail
    refine region_class (fun X => Below W8.heap.size W8 X) (by kernel_rfl) (by kernel_rfl) I ?_
    repeat (go_big_quiet_step (first
      | (go_at_call 21; with_reducible exact class_call _ (fun hi => (CF.out _).mono fun _ _ ⟨he, hb⟩ => ⟨he, hi.trans (hb.mono hi.size)⟩))
      | (go_at_call 26; with_reducible exact class_call _ (fun hi => (CS.out _ hi).mono fun _ _ ⟨he, hb⟩ => ⟨he, hi.trans (hb.mono hi.size)⟩))))
    refine wpQuiet_nil ?_
    rintro _ ⟨jj, rfl⟩
    have H9 := Lib.hid jj.h
    clear m0 m1 m2 m3 r0 r1 r2 r3 I hne0 hne CF CS
    generalize jj.W = W9 at *
    clear jj
    have HK := Lib.hid (H8.out.trans (H9.out.mono H8.out.size))
    have a0 : W9.cell? ⟨b0, 0, none⟩ = _ := (st_cells (BA.out.later HK.out)).1; have a1 : W9.cell? ⟨b0, 1, none⟩ = _ := (st_cells (BA.out.later HK.out)).2.1; have a2 : W9.cell? ⟨b0, 2, none⟩ = _ := (st_cells (BA.out.later HK.out)).2.2.1; have a3 : W9.cell? ⟨b0, 3, none⟩ = _ := (st_cells (BA.out.later HK.out)).2.2.2; have b0' : W9.cell? ⟨b0 + 1, 0, none⟩ = _ := (st_cells (BB.out.later HK.out)).1; have b1 : W9.cell? ⟨b0 + 1, 1, none⟩ = _ := (st_cells (BB.out.later HK.out)).2.1; have b2 : W9.cell? ⟨b0 + 1, 2, none⟩ = _ := (st_cells (BB.out.later HK.out)).2.2.1; have b3 : W9.cell? ⟨b0 + 1, 3, none⟩ = _ := (st_cells (BB.out.later HK.out)).2.2.2; have o0 : W9.cell? ⟨b0 + 1 + 1, 0, none⟩ = some (.int .i64 o.k) := (BO.out.later HK.out).cell 0; have o1 : W9.cell? ⟨b0 + 1 + 1, 1, none⟩ = some (.int .i64 o.s) := (BO.out.later HK.out).cell 1; have o2 : W9.cell? ⟨b0 + 1 + 1, 2, none⟩ = some (.int .i64 o.n) := (BO.out.later HK.out).cell 2; have o3 : W9.cell? ⟨b0 + 1 + 1, 3, none⟩ = some (.slice o.A o.m o.c) := (BO.out.later HK.out).cell 3
    have x0 := (BX.out.later HK.out).cell 0
    have x1 := (BX.out.later HK.out).cell 1
    have x2 := (BX.out.later HK.out).cell 2
    have x3 := (BX.out.later HK.out).cell 3
    have f0 := (BX.out.later HK.out).frozen 0
    have f1 := (BX.out.later HK.out).frozen 1
    have f2 := (BX.out.later HK.out).frozen 2
    have f3 := (BX.out.later HK.out).frozen 3
    have y0 := (BY.out.later HK.out).cell 0
    have y1 := (BY.out.later HK.out).cell 1
    have y2 := (BY.out.later HK.out).cell 2
    have y3 := (BY.out.later HK.out).cell 3
    have g0 := (BY.out.later HK.out).frozen 0
    have g1 := (BY.out.later HK.out).frozen 1
    have g2 := (BY.out.later HK.out).frozen 2
    have g3 := (BY.out.later HK.out).frozen 3
    have m0 := (st_cells (X8.out.later H9.out)).1
    have m1 := (st_cells (X8.out.later H9.out)).2.1
    have m2 := (st_cells (X8.out.later H9.out)).2.2.1
    have m3 := (st_cells (X8.out.later H9.out)).2.2.2
    have r0 := (st_cells (Y8.out.later H9.out)).1
    have r1 := (st_cells (Y8.out.later H9.out)).2.1
    have r2 := (st_cells (Y8.out.later H9.out)).2.2.1
    have r3 := (st_cells (Y8.out.later H9.out)).2.2.2
    have HB9 := Lib.hid (HB.out.trans (HK.out.mono HB.out.size))
    have hl3 := BX.out.lt
    have hl4 := BY.out.lt
    have hn9 := HN9.out
    have hn11 := HN11.out
    have hz0 := HZ.out
    have XX := BX.out.later HK.out
    have YY := BY.out.later HK.out
    cases hh : O2 with
    | none =>
      rw [hh] at m0 m1 m2 m3 r0 r1 r2 r3
      have hz : (er none != 0) = true := by decide
      go_upto_region 16 with fail
      go_region
      rw [set4 XX, set4 (YY.far (show b0 + 1 + 1 + 1 ≠ b0 + 1 + 1 + 1 + 1 by omega) _)]
      go_wp2_with fail
      have hbf := (below_row (below_row HB9.out (show w.heap.size ≤ b0 + 1 + 1 + 1 by omega) (sc s A p)) (show w.heap.size ≤ b0 + 1 + 1 + 1 + 1 by omega) (sc s B q)).drew
      refine bodyPost_ret (res_3 rfl _ _ _ _ rfl rfl rfl ((XX.row _).far (show b0 + 1 + 1 + 1 + 1 ≠ b0 + 1 + 1 + 1 by omega) _) ((YY.far (show b0 + 1 + 1 + 1 ≠ b0 + 1 + 1 + 1 + 1 by omega) _).row _)) rfl ?_
      exact ⟨s, A, p, B, q, HRR.out, rfl, HA0.out.later hbf, HB0.out.later hbf, hbf, .inl ⟨rfl, rfl⟩, .inl ⟨rfl, rfl⟩⟩
    | some r =>
      rw [hh] at m0 m1 m2 m3 r0 r1 r2 r3
      simp only [st, Option.getD_some] at m0 m1 m2 m3 r0 r1 r2 r3
      have hz : (er (some r) != 0) = false := rfl
      have v1 := V8.out.later H9.out
      have v2 := U8.out.later H9.out
      rw [hh] at v1 v2
      have hr := HOR2.out r hh
      go_upto_region 17 with fail
      have nq1 : ¬ (b0 + 1 + 1 + 1 = n9) := by omega
      have nq2 : ¬ (b0 + 1 + 1 + 1 + 1 = n9) := by omega
      have nq3 : ¬ (b0 + 1 + 1 + 1 = n11) := by omega
      have nq4 : ¬ (b0 + 1 + 1 + 1 + 1 = n11) := by omega
      go_region
      rw [set4 XX, set4 (YY.far (show b0 + 1 + 1 + 1 ≠ b0 + 1 + 1 + 1 + 1 by omega) _)]
      go_wp2_with fail
      have hbf := (below_row (below_row HB9.out (show w.heap.size ≤ b0 + 1 + 1 + 1 by omega) (sc r A5 p5)) (show w.heap.size ≤ b0 + 1 + 1 + 1 + 1 by omega) (sc r A6 p6)).drew
      refine bodyPost_ret (res_3 rfl _ _ _ _ rfl rfl rfl ((XX.row _).far (show b0 + 1 + 1 + 1 + 1 ≠ b0 + 1 + 1 + 1 by omega) _) ((YY.far (show b0 + 1 + 1 + 1 ≠ b0 + 1 + 1 + 1 + 1 by omega) _).row _)) rfl ?_
      have d1 : ∀ X : World, Below X.heap.size X X.drew := fun X => (Below.refl _ _).drew
      refine ⟨r, A5, p5, A6, p6, hr, rfl, (vr_far (vr_far v1 _ (fun a ha => by have := F8.out a ha; omega) _) _ (fun a ha => by have := F8.out a ha; omega) _).later (d1 _), (vr_far (vr_far v2 _ (fun a ha => by have := G8.out a ha; omega) _) _ (fun a ha => by have := G8.out a ha; omega) _).later (d1 _), hbf, .inr (fun a ha => Nat.le_trans HB.out.size (F8.out a ha)), .inr (fun a ha => Nat.le_trans HB.out.size (G8.out a ha))⟩
  have d0 : (z == 0) = false := by simp; exact z0
  have d1 : (z == 1) = false := by simp; exact z1
  have d2 : (z == 2) = false := by simp; exact z2
  clear z0 z1 z2
  have hlen : (st O).t.length ≤ 1000 := by
    cases hh : O with
    | none => exact Nat.zero_le _
    | some r => have := right_len (HOR.out r hh); show r.t.length ≤ 1000; omega
  have CF := Lib.hid (fun X => ref_any 0 (st O).t.length p1 A1 (st O).v (st O).c (st O).n X)
  have CS : Hid (∀ X, Below W3.heap.size W3 X → Calls Try.prog 26 #[.agg #[.slice A1 (st O).t.length p1, .int .i64 (st O).v, .int .i64 (st O).c, .int .i64 (st O).n], .agg #[.slice B1 (st O).t.length q1, .int .i64 (st O).v, .int .i64 (st O).c, .int .i64 (st O).n]] X fun e w' => e = .returned (.bool true) ∧ Below X.heap.size X w') := Lib.hid (fun X hX => rsame_any (st O) (st O) A1 p1 B1 q1 X (V3.out.later hX) (U3.out.later hX) hlen true (by simp))
  clear hlen
  have hne : (er O != er O) = false := by simp
  have I : Below W3.heap.size W3 { W3 with drawn := W3.drawn + 1 } := (Below.refl _ _).drew
  have hne0 : Nonempty (In (fun X => Below W3.heap.size W3 X)) := ⟨⟨_, I⟩⟩
  have m0 : ∀ jj : In (fun X => Below W3.heap.size W3 X), jj.W.cell? ⟨n9, 0, none⟩ = some (.slice A1 (st O).t.length p1) := fun jj => (st_cells (X3.out.later jj.h)).1
  have m1 : ∀ jj : In (fun X => Below W3.heap.size W3 X), jj.W.cell? ⟨n9, 1, none⟩ = some (.int .i64 (st O).v) := fun jj => (st_cells (X3.out.later jj.h)).2.1
  have m2 : ∀ jj : In (fun X => Below W3.heap.size W3 X), jj.W.cell? ⟨n9, 2, none⟩ = some (.int .i64 (st O).c) := fun jj => (st_cells (X3.out.later jj.h)).2.2.1
  have m3 : ∀ jj : In (fun X => Below W3.heap.size W3 X), jj.W.cell? ⟨n9, 3, none⟩ = some (.int .i64 (st O).n) := fun jj => (st_cells (X3.out.later jj.h)).2.2.2
  have r0 : ∀ jj : In (fun X => Below W3.heap.size W3 X), jj.W.cell? ⟨n11, 0, none⟩ = some (.slice B1 (st O).t.length q1) := fun jj => (st_cells (Y3.out.later jj.h)).1
  have r1 : ∀ jj : In (fun X => Below W3.heap.size W3 X), jj.W.cell? ⟨n11, 1, none⟩ = some (.int .i64 (st O).v) := fun jj => (st_cells (Y3.out.later jj.h)).2.1
  have r2 : ∀ jj : In (fun X => Below W3.heap.size W3 X), jj.W.cell? ⟨n11, 2, none⟩ = some (.int .i64 (st O).c) := fun jj => (st_cells (Y3.out.later jj.h)).2.2.1
  have r3 : ∀ jj : In (fun X => Below W3.heap.size W3 X), jj.W.cell? ⟨n11, 3, none⟩ = some (.int .i64 (st O).n) := fun jj => (st_cells (Y3.out.later jj.h)).2.2.2
  go_upto_region 13 with fail
  refine region_class (fun X => Below W3.heap.size W3 X) (by kernel_rfl) (by kernel_rfl) I ?_
  repeat (go_big_quiet_step (first
    | (go_at_call 21; with_reducible exact class_call _ (fun hi => (CF.out _).mono fun _ _ ⟨he, hb⟩ => ⟨he, hi.trans (hb.mono hi.size)⟩))
    | (go_at_call 26; with_reducible exact class_call _ (fun hi => (CS.out _ hi).mono fun _ _ ⟨he, hb⟩ => ⟨he, hi.trans (hb.mono hi.size)⟩))))
  refine wpQuiet_nil ?_
  rintro _ ⟨jj, rfl⟩
  have H9 := Lib.hid jj.h
  clear m0 m1 m2 m3 r0 r1 r2 r3 I hne0 hne CF CS
  generalize jj.W = W9 at *
  clear jj
  have HK := Lib.hid (H3.out.trans (H9.out.mono H3.out.size))
  have a0 : W9.cell? ⟨b0, 0, none⟩ = _ := (st_cells (BA.out.later HK.out)).1; have a1 : W9.cell? ⟨b0, 1, none⟩ = _ := (st_cells (BA.out.later HK.out)).2.1; have a2 : W9.cell? ⟨b0, 2, none⟩ = _ := (st_cells (BA.out.later HK.out)).2.2.1; have a3 : W9.cell? ⟨b0, 3, none⟩ = _ := (st_cells (BA.out.later HK.out)).2.2.2; have b0' : W9.cell? ⟨b0 + 1, 0, none⟩ = _ := (st_cells (BB.out.later HK.out)).1; have b1 : W9.cell? ⟨b0 + 1, 1, none⟩ = _ := (st_cells (BB.out.later HK.out)).2.1; have b2 : W9.cell? ⟨b0 + 1, 2, none⟩ = _ := (st_cells (BB.out.later HK.out)).2.2.1; have b3 : W9.cell? ⟨b0 + 1, 3, none⟩ = _ := (st_cells (BB.out.later HK.out)).2.2.2; have o0 : W9.cell? ⟨b0 + 1 + 1, 0, none⟩ = some (.int .i64 o.k) := (BO.out.later HK.out).cell 0; have o1 : W9.cell? ⟨b0 + 1 + 1, 1, none⟩ = some (.int .i64 o.s) := (BO.out.later HK.out).cell 1; have o2 : W9.cell? ⟨b0 + 1 + 1, 2, none⟩ = some (.int .i64 o.n) := (BO.out.later HK.out).cell 2; have o3 : W9.cell? ⟨b0 + 1 + 1, 3, none⟩ = some (.slice o.A o.m o.c) := (BO.out.later HK.out).cell 3
  have x0 := (BX.out.later HK.out).cell 0
  have x1 := (BX.out.later HK.out).cell 1
  have x2 := (BX.out.later HK.out).cell 2
  have x3 := (BX.out.later HK.out).cell 3
  have f0 := (BX.out.later HK.out).frozen 0
  have f1 := (BX.out.later HK.out).frozen 1
  have f2 := (BX.out.later HK.out).frozen 2
  have f3 := (BX.out.later HK.out).frozen 3
  have y0 := (BY.out.later HK.out).cell 0
  have y1 := (BY.out.later HK.out).cell 1
  have y2 := (BY.out.later HK.out).cell 2
  have y3 := (BY.out.later HK.out).cell 3
  have g0 := (BY.out.later HK.out).frozen 0
  have g1 := (BY.out.later HK.out).frozen 1
  have g2 := (BY.out.later HK.out).frozen 2
  have g3 := (BY.out.later HK.out).frozen 3
  have m0 := (st_cells (X3.out.later H9.out)).1
  have m1 := (st_cells (X3.out.later H9.out)).2.1
  have m2 := (st_cells (X3.out.later H9.out)).2.2.1
  have m3 := (st_cells (X3.out.later H9.out)).2.2.2
  have r0 := (st_cells (Y3.out.later H9.out)).1
  have r1 := (st_cells (Y3.out.later H9.out)).2.1
  have r2 := (st_cells (Y3.out.later H9.out)).2.2.1
  have r3 := (st_cells (Y3.out.later H9.out)).2.2.2
  have HB9 := Lib.hid (HB.out.trans (HK.out.mono HB.out.size))
  have hl3 := BX.out.lt
  have hl4 := BY.out.lt
  have hn9 := HN9.out
  have hn11 := HN11.out
  have hz0 := HZ.out
  have XX := BX.out.later HK.out
  have YY := BY.out.later HK.out
  cases hh : O with
  | none =>
    rw [hh] at m0 m1 m2 m3 r0 r1 r2 r3
    have hz : (er none != 0) = true := by decide
    go_upto_region 16 with fail
    go_region
    rw [set4 XX, set4 (YY.far (show b0 + 1 + 1 + 1 ≠ b0 + 1 + 1 + 1 + 1 by omega) _)]
    go_wp2_with fail
    have hbf := (below_row (below_row HB9.out (show w.heap.size ≤ b0 + 1 + 1 + 1 by omega) (sc s A p)) (show w.heap.size ≤ b0 + 1 + 1 + 1 + 1 by omega) (sc s B q)).drew
    refine bodyPost_ret (res_3 rfl _ _ _ _ rfl rfl rfl ((XX.row _).far (show b0 + 1 + 1 + 1 + 1 ≠ b0 + 1 + 1 + 1 by omega) _) ((YY.far (show b0 + 1 + 1 + 1 ≠ b0 + 1 + 1 + 1 + 1 by omega) _).row _)) rfl ?_
    exact ⟨s, A, p, B, q, HRR.out, rfl, HA0.out.later hbf, HB0.out.later hbf, hbf, .inl ⟨rfl, rfl⟩, .inl ⟨rfl, rfl⟩⟩
  | some r =>
    rw [hh] at m0 m1 m2 m3 r0 r1 r2 r3
    simp only [st, Option.getD_some] at m0 m1 m2 m3 r0 r1 r2 r3
    have hz : (er (some r) != 0) = false := rfl
    have v1 := V3.out.later H9.out
    have v2 := U3.out.later H9.out
    rw [hh] at v1 v2
    have hr := HOR.out r hh
    go_upto_region 17 with fail
    have nq1 : ¬ (b0 + 1 + 1 + 1 = n9) := by omega
    have nq2 : ¬ (b0 + 1 + 1 + 1 + 1 = n9) := by omega
    have nq3 : ¬ (b0 + 1 + 1 + 1 = n11) := by omega
    have nq4 : ¬ (b0 + 1 + 1 + 1 + 1 = n11) := by omega
    go_region
    rw [set4 XX, set4 (YY.far (show b0 + 1 + 1 + 1 ≠ b0 + 1 + 1 + 1 + 1 by omega) _)]
    go_wp2_with fail
    have hbf := (below_row (below_row HB9.out (show w.heap.size ≤ b0 + 1 + 1 + 1 by omega) (sc r A1 p1)) (show w.heap.size ≤ b0 + 1 + 1 + 1 + 1 by omega) (sc r B1 q1)).drew
    refine bodyPost_ret (res_3 rfl _ _ _ _ rfl rfl rfl ((XX.row _).far (show b0 + 1 + 1 + 1 + 1 ≠ b0 + 1 + 1 + 1 by omega) _) ((YY.far (show b0 + 1 + 1 + 1 ≠ b0 + 1 + 1 + 1 + 1 by omega) _).row _)) rfl ?_
    have d1 : ∀ X : World, Below X.heap.size X X.drew := fun X => (Below.refl _ _).drew
    refine ⟨r, A1, p1, B1, q1, hr, rfl, (vr_far (vr_far v1 _ (fun a ha => by have := F1.out a ha; omega) _) _ (fun a ha => by have := F1.out a ha; omega) _).later (d1 _), (vr_far (vr_far v2 _ (fun a ha => by have := G1.out a ha; omega) _) _ (fun a ha => by have := G1.out a ha; omega) _).later (d1 _), hbf, .inr (fun a ha => Nat.le_trans HB.out.size (F1.out a ha)), .inr (fun a ha => Nat.le_trans HB.out.size (G1.out a ha))⟩
end Go.Proofs.Ytfhdckmpodmejaa.Sw
