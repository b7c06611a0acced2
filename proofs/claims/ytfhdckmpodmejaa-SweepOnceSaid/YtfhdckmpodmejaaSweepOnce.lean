/- For all inputs the statement SweepOnce about sweep returns true, and changes nothing. Conditions: none. -/
import Derived.Test.YtfhdckmpodmejaaSwI
import Derived.Test.YtfhdckmpodmejaaSwK
import Derived.Test.YtfhdckmpodmejaaClass
import Derived.Deep.RegionHeld3
import Derived.Test.YtfhdckmpodmejaaSwQ
import Derived.ProofKit
import Derived.OpenShut
import Derived.ShutString
import Derived.SizedLaws
namespace Go.Proofs.Ytfhdckmpodmejaa.sweepOnce
open Go.ChangeShapes Go.WideShapes Go.ChangeAt Go.RowKit Go.Lib Go.MapKept
open Go.ChangeMaps (open_string shut_string)
set_option linter.unusedVariables false
set_option linter.unusedSimpArgs false

theorem own : ownKnob Try.prog.godebug = none := by kernel_rfl
theorem laid : laidOutB Try.prog = true := by kernel_rfl

set_option maxRecDepth 100000
open Sw Rw Sp
theorem arrF76 {cs : Array Value} (h : cs.size = 76) : ∃ y : Nat → Value, (∀ i, cs.getD i undef = y i) ∧ cs = #[y 0, y 1, y 2, y 3, y 4, y 5, y 6, y 7, y 8, y 9, y 10, y 11, y 12, y 13, y 14, y 15, y 16, y 17, y 18, y 19, y 20, y 21, y 22, y 23, y 24, y 25, y 26, y 27, y 28, y 29, y 30, y 31, y 32, y 33, y 34, y 35, y 36, y 37, y 38, y 39, y 40, y 41, y 42, y 43, y 44, y 45, y 46, y 47, y 48, y 49, y 50, y 51, y 52, y 53, y 54, y 55, y 56, y 57, y 58, y 59, y 60, y 61, y 62, y 63, y 64, y 65, y 66, y 67, y 68, y 69, y 70, y 71, y 72, y 73, y 74, y 75] := by
  refine ⟨fun i => cs.getD i undef, fun _ => rfl, ?_⟩
  have e : cs = ((List.range 76).map fun i => cs.getD i undef).toArray := by
    apply Array.ext
    · simp [h]
    · intro i h1 h2
      simp [h1]
  exact e.trans rfl
theorem kept_of {ops : Array Oper} {dsts : List Nat} {listed : Array Bool} (h : ops.all (fun o => match o.dst with | none => true | some d => dsts.contains d) = true) {d : Nat} (hd : dsts.contains d = false) : ∀ i o, ops[i]? = some o → listed.getD i false = true → o.dst ≠ some d := by
  intro i o hi _ e
  rw [Array.all_eq_true_iff_forall_mem] at h
  have := h o (Array.mem_of_getElem? hi)
  rw [e] at this
  simp only at this
  rw [hd] at this
  cases this
set_option maxRecDepth 100000 in
theorem frQ {z0 z1 z2 z3 z4 z5 z6 z7 z8 z9 z10 z11 z12 z13 z14 z15 z16 z17 z18 z19 z20 z21 z22 z23 z24 z25 z26 z27 z28 z29 z30 z31 z32 z33 z34 z35 z36 z37 z38 z39 z40 z41 z42 z43 z44 z45 z46 z47 z48 z49 z50 z51 z52 z53 z54 z55 z56 z57 z58 z59 z60 z61 z62 z63 z64 z65 z66 z67 z68 z69 z70 z71 z72 z73 z74 z75 : Value} {ts us : Array Value} (hz : ts = #[z0, z1, z2, z3, z4, z5, z6, z7, z8, z9, z10, z11, z12, z13, z14, z15, z16, z17, z18, z19, z20, z21, z22, z23, z24, z25, z26, z27, z28, z29, z30, z31, z32, z33, z34, z35, z36, z37, z38, z39, z40, z41, z42, z43, z44, z45, z46, z47, z48, z49, z50, z51, z52, z53, z54, z55, z56, z57, z58, z59, z60, z61, z62, z63, z64, z65, z66, z67, z68, z69, z70, z71, z72, z73, z74, z75]) (hs : us.size = ts.size) (hk : ∀ d, [28, 29, 30, 31, 32, 27, 33, 34, 35, 8, 9, 10].contains d = false → us.getD d undef = ts.getD d undef) :
    ∃ y : Nat → Value, (∀ i, us.getD i undef = y i) ∧ us = #[z0, z1, z2, z3, z4, z5, z6, z7, y 8, y 9, y 10, z11, z12, z13, z14, z15, z16, z17, z18, z19, z20, z21, z22, z23, z24, z25, z26, y 27, y 28, y 29, y 30, y 31, y 32, y 33, y 34, y 35, z36, z37, z38, z39, z40, z41, z42, z43, z44, z45, z46, z47, z48, z49, z50, z51, z52, z53, z54, z55, z56, z57, z58, z59, z60, z61, z62, z63, z64, z65, z66, z67, z68, z69, z70, z71, z72, z73, z74, z75] := by
  obtain ⟨y, hy, e⟩ := arrF76 (cs := us) (by rw [hs, hz]; rfl)
  subst hz
  refine ⟨y, hy, e.trans ?_⟩
  have e0 : y 0 = z0 := (hy 0).symm.trans (hk 0 rfl)
  have e1 : y 1 = z1 := (hy 1).symm.trans (hk 1 rfl)
  have e2 : y 2 = z2 := (hy 2).symm.trans (hk 2 rfl)
  have e3 : y 3 = z3 := (hy 3).symm.trans (hk 3 rfl)
  have e4 : y 4 = z4 := (hy 4).symm.trans (hk 4 rfl)
  have e5 : y 5 = z5 := (hy 5).symm.trans (hk 5 rfl)
  have e6 : y 6 = z6 := (hy 6).symm.trans (hk 6 rfl)
  have e7 : y 7 = z7 := (hy 7).symm.trans (hk 7 rfl)
  have e11 : y 11 = z11 := (hy 11).symm.trans (hk 11 rfl)
  have e12 : y 12 = z12 := (hy 12).symm.trans (hk 12 rfl)
  have e13 : y 13 = z13 := (hy 13).symm.trans (hk 13 rfl)
  have e14 : y 14 = z14 := (hy 14).symm.trans (hk 14 rfl)
  have e15 : y 15 = z15 := (hy 15).symm.trans (hk 15 rfl)
  have e16 : y 16 = z16 := (hy 16).symm.trans (hk 16 rfl)
  have e17 : y 17 = z17 := (hy 17).symm.trans (hk 17 rfl)
  have e18 : y 18 = z18 := (hy 18).symm.trans (hk 18 rfl)
  have e19 : y 19 = z19 := (hy 19).symm.trans (hk 19 rfl)
  have e20 : y 20 = z20 := (hy 20).symm.trans (hk 20 rfl)
  have e21 : y 21 = z21 := (hy 21).symm.trans (hk 21 rfl)
  have e22 : y 22 = z22 := (hy 22).symm.trans (hk 22 rfl)
  have e23 : y 23 = z23 := (hy 23).symm.trans (hk 23 rfl)
  have e24 : y 24 = z24 := (hy 24).symm.trans (hk 24 rfl)
  have e25 : y 25 = z25 := (hy 25).symm.trans (hk 25 rfl)
  have e26 : y 26 = z26 := (hy 26).symm.trans (hk 26 rfl)
  have e36 : y 36 = z36 := (hy 36).symm.trans (hk 36 rfl)
  have e37 : y 37 = z37 := (hy 37).symm.trans (hk 37 rfl)
  have e38 : y 38 = z38 := (hy 38).symm.trans (hk 38 rfl)
  have e39 : y 39 = z39 := (hy 39).symm.trans (hk 39 rfl)
  have e40 : y 40 = z40 := (hy 40).symm.trans (hk 40 rfl)
  have e41 : y 41 = z41 := (hy 41).symm.trans (hk 41 rfl)
  have e42 : y 42 = z42 := (hy 42).symm.trans (hk 42 rfl)
  have e43 : y 43 = z43 := (hy 43).symm.trans (hk 43 rfl)
  have e44 : y 44 = z44 := (hy 44).symm.trans (hk 44 rfl)
  have e45 : y 45 = z45 := (hy 45).symm.trans (hk 45 rfl)
  have e46 : y 46 = z46 := (hy 46).symm.trans (hk 46 rfl)
  have e47 : y 47 = z47 := (hy 47).symm.trans (hk 47 rfl)
  have e48 : y 48 = z48 := (hy 48).symm.trans (hk 48 rfl)
  have e49 : y 49 = z49 := (hy 49).symm.trans (hk 49 rfl)
  have e50 : y 50 = z50 := (hy 50).symm.trans (hk 50 rfl)
  have e51 : y 51 = z51 := (hy 51).symm.trans (hk 51 rfl)
  have e52 : y 52 = z52 := (hy 52).symm.trans (hk 52 rfl)
  have e53 : y 53 = z53 := (hy 53).symm.trans (hk 53 rfl)
  have e54 : y 54 = z54 := (hy 54).symm.trans (hk 54 rfl)
  have e55 : y 55 = z55 := (hy 55).symm.trans (hk 55 rfl)
  have e56 : y 56 = z56 := (hy 56).symm.trans (hk 56 rfl)
  have e57 : y 57 = z57 := (hy 57).symm.trans (hk 57 rfl)
  have e58 : y 58 = z58 := (hy 58).symm.trans (hk 58 rfl)
  have e59 : y 59 = z59 := (hy 59).symm.trans (hk 59 rfl)
  have e60 : y 60 = z60 := (hy 60).symm.trans (hk 60 rfl)
  have e61 : y 61 = z61 := (hy 61).symm.trans (hk 61 rfl)
  have e62 : y 62 = z62 := (hy 62).symm.trans (hk 62 rfl)
  have e63 : y 63 = z63 := (hy 63).symm.trans (hk 63 rfl)
  have e64 : y 64 = z64 := (hy 64).symm.trans (hk 64 rfl)
  have e65 : y 65 = z65 := (hy 65).symm.trans (hk 65 rfl)
  have e66 : y 66 = z66 := (hy 66).symm.trans (hk 66 rfl)
  have e67 : y 67 = z67 := (hy 67).symm.trans (hk 67 rfl)
  have e68 : y 68 = z68 := (hy 68).symm.trans (hk 68 rfl)
  have e69 : y 69 = z69 := (hy 69).symm.trans (hk 69 rfl)
  have e70 : y 70 = z70 := (hy 70).symm.trans (hk 70 rfl)
  have e71 : y 71 = z71 := (hy 71).symm.trans (hk 71 rfl)
  have e72 : y 72 = z72 := (hy 72).symm.trans (hk 72 rfl)
  have e73 : y 73 = z73 := (hy 73).symm.trans (hk 73 rfl)
  have e74 : y 74 = z74 := (hy 74).symm.trans (hk 74 rfl)
  have e75 : y 75 = z75 := (hy 75).symm.trans (hk 75 rfl)
  simp only [e0, e1, e2, e3, e4, e5, e6, e7, e11, e12, e13, e14, e15, e16, e17, e18, e19, e20, e21, e22, e23, e24, e25, e26, e36, e37, e38, e39, e40, e41, e42, e43, e44, e45, e46, e47, e48, e49, e50, e51, e52, e53, e54, e55, e56, e57, e58, e59, e60, e61, e62, e63, e64, e65, e66, e67, e68, e69, e70, e71, e72, e73, e74, e75]

set_option maxHeartbeats 8000000 in
theorem walk (s0 : St) (A : Option Addr) (p : Nat) (o : Cl) (k : Int) (w : World) (hA : VR w A s0.t.length (iv s0.t)) (hp : s0.t.length ≤ p) (ho : ClIn w o) (hk : 0 ≤ k ∧ k ≤ 255) :
    Calls Try.prog 4 #[.agg (sc s0 A p), .agg #[.int .i64 o.k, .int .i64 o.s, .int .i64 o.n, .slice o.A o.m o.c], .int .u8 k] w fun e w' => e = .returned (.bool true) ∧ Below w.heap.size w w' := by
  obtain ⟨b0, hb0⟩ : ∃ b0, w.heap.size = b0 := ⟨_, rfl⟩
  obtain ⟨W, hW⟩ : ∃ W, (w.alloc (.cells (sc s0 A p) 25)).alloc (.cells #[.int .i64 o.k, .int .i64 o.s, .int .i64 o.n, .slice o.A o.m o.c] 32) = W := ⟨_, rfl⟩
  have HB := Lib.hid (show Below w.heap.size w W by rw [← hW]; exact (below1 _ _).alloc (by simp) _)
  have BS : Hid (Sp.Blk W b0 25 (sc s0 A p)) := Lib.hid (by rw [← hW, ← hb0]; exact (Sp.Blk.new _ _ _).later (below1 _ _))
  have BO : Hid (Sp.Blk W (b0 + 1) 32 #[.int .i64 o.k, .int .i64 o.s, .int .i64 o.n, .slice o.A o.m o.c]) := Lib.hid (by rw [← hW, ← hb0]; exact Sp.Blk.at_ _ _ _ (by simp))
  have CC := Lib.hid (fun X => cut_any s0 A p X hp)
  obtain ⟨s, hs⟩ : ∃ s : St, (⟨s0.t.take 20, s0.v, s0.c, s0.n⟩ : St) = s := ⟨_, rfl⟩
  rw [hs] at CC
  have hl : s.t.length ≤ 20 := by rw [← hs]; simp only [List.length_take]; omega
  have hlp : s.t.length ≤ p := by rw [← hs]; simp only [List.length_take]; omega
  have hV : VR w A s.t.length (iv s.t) := by
    rw [← hs]
    have h := hA.cut (min 20 s0.t.length) (by omega)
    rw [iv_take] at h
    have e : s0.t.take (min 20 s0.t.length) = s0.t.take 20 := by
      apply List.ext_getElem?
      intro i
      rw [List.getElem?_take, List.getElem?_take]
      by_cases h1 : i < 20
      · by_cases h2 : i < s0.t.length
        · rw [if_pos (by omega), if_pos h1]
        · rw [if_neg (by omega), if_pos h1, List.getElem?_eq_none (by omega)]
      · rw [if_neg (by omega), if_neg h1]
    rw [e] at h
    simpa using h
  have HV := Lib.hid hV
  have HL := Lib.hid hl
  have HLP := Lib.hid hlp
  have HO := Lib.hid ho
  have HZ := Lib.hid hb0
  have s0' := (st_cells BS.out).1
  have s1 := (st_cells BS.out).2.1
  have s2 := (st_cells BS.out).2.2.1
  have s3 := (st_cells BS.out).2.2.2
  clear hs hl hlp hV ho hA hp
  have hkk : ((k : Int).tmod 31) = k % 31 := Int.tmod_eq_emod_of_nonneg hk.1
  go_enter Try.func4, Try.ntmps4
  go_upto_region 3 with (first
    | (go_at_call 19; refine (CC.out _).mono ?_; rintro e1 w1 ⟨rfl, hb1⟩; have H1 := Lib.hid hb1; have x1 := BS.out.later hb1; clear hb1)
    | (with_reducible refine store_p rfl (.tmp 3) (.tmp 12) rfl b0 rfl rfl x1 ?_))
  have HW := Lib.hid (below_row (HB.out.trans (H1.out.mono HB.out.size)) (show w.heap.size ≤ b0 by have := HZ.out; omega) (sc s A p))
  have X1 : Hid (Sp.Blk (w1.setRow b0 (sc s A p)) b0 25 (sc s A p)) := Lib.hid (x1.row _)
  have O1 := Lib.hid ((BO.out.later H1.out).far (show b0 ≠ b0 + 1 by omega) (sc s A p))
  change Code.wp _ _ _ _ (w1.setRow b0 (sc s A p))
  clear hW hb0 CC s0' s1 s2 s3 x1 H1 BS BO HB
  generalize w1.setRow b0 (sc s A p) = W1 at *
  clear w1
  obtain ⟨kk, hkk2⟩ : ∃ kk, k % 31 = kk := ⟨_, rfl⟩
  have hk0 : 0 ≤ kk ∧ kk ≤ 30 := by omega
  rw [hkk2]
  clear hkk hkk2 hk
  have HK := Lib.hid hk0
  clear hk0
  have V1 := Lib.hid (HV.out.later HW.out)
  have OI := Lib.hid (HO.out.later HW.out)
  clear HV HO
  obtain ⟨R, hR⟩ : ∃ R, decide (Right s) = R := ⟨_, rfl⟩
  have HRD := Lib.hid hR
  have CP : Hid (∀ X, Below W1.heap.size W1 X → Calls Try.prog 11 #[.agg #[.slice A s.t.length p, .int .i64 s.v, .int .i64 s.c, .int .i64 s.n]] X fun e w' => e = .returned (.bool R) ∧ Below X.heap.size X w') := Lib.hid (fun X hX => by rw [← hR]; exact pright_any s A p X (V1.out.later hX) (by have := HL.out; omega))
  have CQ : Hid (∀ X, Below W1.heap.size W1 X → Calls Try.prog 20 #[.agg #[.slice A s.t.length p, .int .i64 s.v, .int .i64 s.c, .int .i64 s.n]] X fun e w' => e = .returned (.bool R) ∧ Below X.heap.size X w') := Lib.hid (fun X hX => by rw [← hR]; exact rright_any s A p X (V1.out.later hX) (by have := HL.out; omega) HLP.out)
  have CF : Hid (∀ X, Calls Try.prog 21 #[.agg #[.slice A s.t.length p, .int .i64 s.v, .int .i64 s.c, .int .i64 s.n]] X fun e w' => e = .returned (.agg #[.slice A s.t.length p, .int .i64 s.v, .int .i64 s.c, .int .i64 s.n]) ∧ Below X.heap.size X w') := Lib.hid (fun X => ref_any 0 s.t.length p A s.v s.c s.n X)
  have hRR : (R != R) = false := by simp
  have Z1 : Hid (Below W1.heap.size W1 W1) := Lib.hid (Below.refl _ _)
  have s0 : ∀ jj : In (fun X => Below W1.heap.size W1 X), jj.W.cell? ⟨b0, 0, none⟩ = some (.slice A s.t.length p) := fun jj => (X1.out.later (Z1.out.trans (jj.h.mono Z1.out.size))).cell 0
  have s1 : ∀ jj : In (fun X => Below W1.heap.size W1 X), jj.W.cell? ⟨b0, 1, none⟩ = some (.int .i64 s.v) := fun jj => (X1.out.later (Z1.out.trans (jj.h.mono Z1.out.size))).cell 1
  have s2 : ∀ jj : In (fun X => Below W1.heap.size W1 X), jj.W.cell? ⟨b0, 2, none⟩ = some (.int .i64 s.c) := fun jj => (X1.out.later (Z1.out.trans (jj.h.mono Z1.out.size))).cell 2
  have s3 : ∀ jj : In (fun X => Below W1.heap.size W1 X), jj.W.cell? ⟨b0, 3, none⟩ = some (.int .i64 s.n) := fun jj => (X1.out.later (Z1.out.trans (jj.h.mono Z1.out.size))).cell 3
  have I : Below W1.heap.size W1 { W1 with drawn := W1.drawn + 1 } := (Below.refl _ _).drew
  have hne : Nonempty (In (fun X => Below W1.heap.size W1 X)) := ⟨⟨_, I⟩⟩
  refine region_class (fun X => Below W1.heap.size W1 X) (by kernel_rfl) (by kernel_rfl) I ?_
  repeat (go_big_quiet_step (first
    | (go_at_call 11; with_reducible exact class_call _ (fun hi => (CP.out _ hi).mono fun _ _ ⟨he, hb⟩ => ⟨he, hi.trans (hb.mono hi.size)⟩))
    | (go_at_call 20; with_reducible exact class_call _ (fun hi => (CQ.out _ hi).mono fun _ _ ⟨he, hb⟩ => ⟨he, hi.trans (hb.mono hi.size)⟩))
    | (go_at_call 21; with_reducible exact class_call _ (fun hi => (CF.out _).mono fun _ _ ⟨he, hb⟩ => ⟨he, hi.trans (hb.mono hi.size)⟩))))
  refine wpQuiet_nil ?_
  rintro _ ⟨jj, rfl⟩
  have H2 := Lib.hid jj.h
  clear I hne s0 s1 s2 s3 hRR hR
  generalize jj.W = W2 at *
  clear jj
  have s0 : W2.cell? ⟨b0, 0, none⟩ = some (.slice A s.t.length p) := (X1.out.later H2.out).cell 0; have s1 : W2.cell? ⟨b0, 1, none⟩ = some (.int .i64 s.v) := (X1.out.later H2.out).cell 1; have s2 : W2.cell? ⟨b0, 2, none⟩ = some (.int .i64 s.c) := (X1.out.later H2.out).cell 2; have s3 : W2.cell? ⟨b0, 3, none⟩ = some (.int .i64 s.n) := (X1.out.later H2.out).cell 3
  go_upto_region 5 with fail
  cases R with
  | false =>
    go_wp2_with (first
      | (go_at_call 21; refine (CF.out _).mono ?_; rintro e3 w3 ⟨rfl, hb3⟩; have H3 := Lib.hid (H2.out.trans (hb3.mono H2.out.size)); clear hb3)
      | (go_at_call 20; refine (CQ.out _ H3.out).mono ?_; rintro e4 w4 ⟨rfl, hb4⟩; have H4 := Lib.hid (H3.out.trans (hb4.mono H3.out.size)); clear hb4)
      | (go_at_call 18; refine (fixed_any _).mono ?_; rintro e5 w5 ⟨rfl, hb5⟩; have H5 := Lib.hid (H4.out.trans (hb5.mono H4.out.size)); clear hb5))
    go_ret
    exact ⟨rfl, HW.out.trans (H5.out.mono HW.out.size)⟩
  | true =>
    have hr : Right s := of_decide_eq_true HRD.out
    have HR := Lib.hid hr
    clear hr
    go_upto_region 7 with (first
      | (go_at_call 21; refine (CF.out _).mono ?_; rintro e3 w3 ⟨rfl, hb3⟩; have H3 := Lib.hid (H2.out.trans (hb3.mono H2.out.size)); clear hb3)
      | (go_at_call 20; refine (CQ.out _ H3.out).mono ?_; rintro e4 w4 ⟨rfl, hb4⟩; have H4 := Lib.hid (H3.out.trans (hb4.mono H3.out.size)); clear hb4))
    have zvp := Try.zeroValue25
    have zvr := Try.zeroValue27
    clear s0 s1 s2 s3
    have X4 := Lib.hid (X1.out.later H4.out)
    have O4 := Lib.hid (O1.out.later H4.out)
    have V4 := Lib.hid (V1.out.later H4.out)
    have OI4 := Lib.hid (OI.out.later H4.out)
    refine FreeC.wp_freeC (FreeD.wl [some (.agg #[.slice A s.t.length p, .int .i64 s.v, .int .i64 s.c, .int .i64 s.n]), some (.agg #[.slice A s.t.length p, .int .i64 s.v, .int .i64 s.c, .int .i64 s.n]), some (.agg #[.slice A s.t.length p, .int .i64 s.v, .int .i64 s.c, .int .i64 s.n]), some (.agg #[.int .i64 o.k, .int .i64 o.s, .int .i64 o.n, .slice o.A o.m o.c]), none, none, none, none, some (.bool true), none, none, none, none, some (.bool true)]) (Oq.O8 w4 (fun _ => False)) (by kernel_rfl) (by kernel_rfl) (Oq.O8.start _ _ _) ?_ ?_
    · refine ⟨?_, ?_, ?_, ?_, ?_, ?_, ?_, ?_, ?_, ?_, ?_, ?_, ?_, ?_, trivial⟩
      · intro listed A0 W hA hno hr K' hK
        have hsl := hA.size
        simp at hsl
        have hts : A0.tmps.size = 76 := hA.slots.trans rfl
        have e3 : A0.tmps[3]?.getD undef = .pointer (some ⟨b0, 0, none⟩) := FreeD.slot_is ((hA.kept 3 (Free.not_dst (by kernel_rfl))).trans rfl)
        have c0 : W.cell? ⟨b0, 0, none⟩ = some (.slice A s.t.length p) := (X4.out.later hA.c.belw).cell 0
        have c1 : W.cell? ⟨b0, 1, none⟩ = some (.int .i64 s.v) := (X4.out.later hA.c.belw).cell 1
        have c2 : W.cell? ⟨b0, 2, none⟩ = some (.int .i64 s.c) := (X4.out.later hA.c.belw).cell 2
        have c3 : W.cell? ⟨b0, 3, none⟩ = some (.int .i64 s.n) := (X4.out.later hA.c.belw).cell 3
        simp [go_sem, e3, c0, c1, c2, c3]
        exact hK _ _ (hA.c.step 0 28 _ (by decide) (by decide) (Below.refl _ _)) rfl (fun j u _ _ hu => FreeD.wl_any hu)
      · intro listed A0 W hA hno hr K' hK
        have hsl := hA.size
        simp at hsl
        have hts : A0.tmps.size = 76 := hA.slots.trans rfl
        have e3 : A0.tmps[3]?.getD undef = .pointer (some ⟨b0, 0, none⟩) := FreeD.slot_is ((hA.kept 3 (Free.not_dst (by kernel_rfl))).trans rfl)
        have c0 : W.cell? ⟨b0, 0, none⟩ = some (.slice A s.t.length p) := (X4.out.later hA.c.belw).cell 0
        have c1 : W.cell? ⟨b0, 1, none⟩ = some (.int .i64 s.v) := (X4.out.later hA.c.belw).cell 1
        have c2 : W.cell? ⟨b0, 2, none⟩ = some (.int .i64 s.c) := (X4.out.later hA.c.belw).cell 2
        have c3 : W.cell? ⟨b0, 3, none⟩ = some (.int .i64 s.n) := (X4.out.later hA.c.belw).cell 3
        simp [go_sem, e3, c0, c1, c2, c3]
        exact hK _ _ (hA.c.step 1 29 _ (by decide) (by decide) (Below.refl _ _)) rfl (fun j u _ _ hu => FreeD.wl_any hu)
      · intro listed A0 W hA hno hr K' hK
        have hsl := hA.size
        simp at hsl
        have hts : A0.tmps.size = 76 := hA.slots.trans rfl
        have e29 : A0.tmps[29]?.getD undef = .agg #[.slice A s.t.length p, .int .i64 s.v, .int .i64 s.c, .int .i64 s.n] := FreeD.slot_is (hA.val 1 _ rfl (hr ⟨1, .data⟩ (by simp) rfl))
        simp [go_sem, e29]
        refine (CF.out W).mono ?_
        rintro e' w' ⟨rfl, hb⟩
        exact hK _ _ (hA.c.step 2 30 _ (by decide) (by decide) hb) rfl (fun j u _ _ hu => FreeD.wl_any hu)
      · intro listed A0 W hA hno hr K' hK
        have hsl := hA.size
        simp at hsl
        have hts : A0.tmps.size = 76 := hA.slots.trans rfl
        have e4 : A0.tmps[4]?.getD undef = .pointer (some ⟨b0 + 1, 0, none⟩) := FreeD.slot_is ((hA.kept 4 (Free.not_dst (by kernel_rfl))).trans rfl)
        have c0 : W.cell? ⟨b0 + 1, 0, none⟩ = some (.int .i64 o.k) := (O4.out.later hA.c.belw).cell 0
        have c1 : W.cell? ⟨b0 + 1, 1, none⟩ = some (.int .i64 o.s) := (O4.out.later hA.c.belw).cell 1
        have c2 : W.cell? ⟨b0 + 1, 2, none⟩ = some (.int .i64 o.n) := (O4.out.later hA.c.belw).cell 2
        have c3 : W.cell? ⟨b0 + 1, 3, none⟩ = some (.slice o.A o.m o.c) := (O4.out.later hA.c.belw).cell 3
        simp [go_sem, e4, c0, c1, c2, c3]
        exact hK _ _ (hA.c.step 3 31 _ (by decide) (by decide) (Below.refl _ _)) rfl (fun j u _ _ hu => FreeD.wl_any hu)
      · intro listed A0 W hA hno hr K' hK
        have hsl := hA.size
        simp at hsl
        have hts : A0.tmps.size = 76 := hA.slots.trans rfl
        have e28 : A0.tmps[28]?.getD undef = .agg #[.slice A s.t.length p, .int .i64 s.v, .int .i64 s.c, .int .i64 s.n] := FreeD.slot_is (hA.val 0 _ rfl (hr ⟨0, .data⟩ (by simp) rfl))
        have e30 : A0.tmps[30]?.getD undef = .agg #[.slice A s.t.length p, .int .i64 s.v, .int .i64 s.c, .int .i64 s.n] := FreeD.slot_is (hA.val 2 _ rfl (hr ⟨2, .data⟩ (by simp) rfl))
        have e31 : A0.tmps[31]?.getD undef = .agg #[.int .i64 o.k, .int .i64 o.s, .int .i64 o.n, .slice o.A o.m o.c] := FreeD.slot_is (hA.val 3 _ rfl (hr ⟨3, .data⟩ (by simp) rfl))
        simp [go_sem, e28, e30, e31]
        refine (do_any s A p A p o W HR.out (V4.out.later hA.c.belw) (V4.out.later hA.c.belw) (OI4.out.later hA.c.belw)).mono ?_
        rintro e' w' ⟨s', A', p', B', q', hR', rfl, hA', hB', hb', fA, fB⟩
        refine hK (Oq.tup3 _ _) w' (hA.c.call (by omega) (FreeD.not_listed (by omega) hno) (by omega) ⟨s', A', p', B', q', rfl, rfl, hR', hA', hB', fun g hg => ?_⟩ hb') trivial (fun j u _ _ hu => FreeD.wl_any hu)
        rcases hg with hg | ⟨hg1, hg2⟩
        · exact hg.elim
        · refine ⟨?_, ?_⟩
          · rcases fA with ⟨rfl, rfl⟩ | fA
            · exact Oq.Nb.far V4.out hg1
            · exact fun _ a ha => by have := fA a ha; omega
          · rcases fB with ⟨rfl, rfl⟩ | fB
            · exact Oq.Nb.far V4.out hg1
            · exact fun _ a ha => by have := fB a ha; omega
      · intro listed A0 W hA hno hr K' hK
        have hsl := hA.size
        simp at hsl
        have hts : A0.tmps.size = 76 := hA.slots.trans rfl
        obtain ⟨u, v, hO⟩ := hA.c
        have h6 := hr ⟨4, .data⟩ (by simp) rfl
        have ec := FreeD.slot_is (hO.d6 h6).1
        simp [go_sem, ec]
        exact hK _ _ ⟨u, v, hO.move h6 (by omega) (by omega)⟩ trivial (fun j u _ _ hu => FreeD.wl_any hu)
      · intro listed A0 W hA hno hr K' hK
        have hsl := hA.size
        simp at hsl
        have hts : A0.tmps.size = 76 := hA.slots.trans rfl
        obtain ⟨u, v, hO⟩ := hA.c
        have h7 := hr ⟨5, .data⟩ (by simp) rfl
        have em := FreeD.slot_is (hO.d7 h7).2
        unfold Oq.tup3 at em
        simp [go_sem, em]
        exact hK _ _ ⟨u, v, hO.part8 h7 (by omega) (by omega)⟩ trivial (fun j u _ _ hu => FreeD.wl_any hu)
      · intro listed A0 W hA hno hr K' hK
        have hsl := hA.size
        simp at hsl
        have hts : A0.tmps.size = 76 := hA.slots.trans rfl
        obtain ⟨u, v, hO⟩ := hA.c
        have h7 := hr ⟨5, .data⟩ (by simp) rfl
        have em := FreeD.slot_is (hO.d7 h7).2
        unfold Oq.tup3 at em
        simp [go_sem, em]
        exact hK _ _ ⟨u, v, hO.part9 h7 (by omega) (by omega)⟩ trivial (fun j u _ _ hu => FreeD.wl_any hu)
      · intro listed A0 W hA hno hr K' hK
        have hsl := hA.size
        simp at hsl
        have hts : A0.tmps.size = 76 := hA.slots.trans rfl
        obtain ⟨u, v, hO⟩ := hA.c
        have h7 := hr ⟨5, .data⟩ (by simp) rfl
        have em := FreeD.slot_is (hO.d7 h7).2
        unfold Oq.tup3 at em
        simp [go_sem, em]
        exact hK _ _ ⟨u, v, hO.step 8 35 _ (by decide) (by decide) (Below.refl _ _)⟩ rfl (fun j u _ _ hu => FreeD.wl_any hu)
      · intro listed A0 W hA hno hr K' hK
        have hsl := hA.size
        simp at hsl
        have hts : A0.tmps.size = 76 := hA.slots.trans rfl
        obtain ⟨u, v, hO⟩ := hA.c
        simp [go_sem, zvp]
        exact hK _ _ ⟨u, v, hO.al11 (by omega) (FreeD.not_listed (by omega) hno) (by omega) _ rfl⟩ trivial (fun j u _ _ hu => FreeD.wl_any hu)
      · intro listed A0 W hA hno hr K' hK
        have hsl := hA.size
        simp at hsl
        have hts : A0.tmps.size = 76 := hA.slots.trans rfl
        obtain ⟨u, v, hO⟩ := hA.c
        simp [go_sem, zvr]
        exact hK _ _ ⟨u, v, hO.al12 (by omega) (FreeD.not_listed (by omega) hno) (by omega) _ rfl⟩ trivial (fun j u _ _ hu => FreeD.wl_any hu)
      · intro listed A0 W hA hno hr K' hK
        have hsl := hA.size
        simp at hsl
        have hts : A0.tmps.size = 76 := hA.slots.trans rfl
        obtain ⟨u, v, hO⟩ := hA.c
        have h8 := hr ⟨6, .data⟩ (by simp) rfl
        have h11 := hr ⟨9, .data⟩ (by simp) rfl
        have h7 := (hO.d8 h8).1
        have h6 := (hO.d7 h7).1
        have ex := (hO.d8 h8).2
        obtain ⟨s', A', p', B', q', eu, ev, _⟩ := (hO.d6 h6).2
        obtain ⟨b, vs, ea, hbb, hvs, hB, _⟩ := hO.k11 h11
        refine wp_store_row _ (.tmp 8) (.tmp 33) rfl b (sc s' A' p') ea (by have h1 := ex; rw [eu] at h1; simpa [Act.eval] using h1) _ _ hB info_p hvs (ints_one _ _ _ _ _ _) ?_
        exact hK undef _ ⟨u, v, hO.st13 (by omega) h6 h11 ea hbb hB rfl eu⟩ trivial (fun j u _ _ hu => FreeD.wl_any hu)
      · intro listed A0 W hA hno hr K' hK
        have hsl := hA.size
        simp at hsl
        have hts : A0.tmps.size = 76 := hA.slots.trans rfl
        obtain ⟨u, v, hO⟩ := hA.c
        have h8 := hr ⟨7, .data⟩ (by simp) rfl
        have h11 := hr ⟨10, .data⟩ (by simp) rfl
        have h7 := (hO.d9 h8).1
        have h6 := (hO.d7 h7).1
        have ex := (hO.d9 h8).2
        obtain ⟨s', A', p', B', q', eu, ev, _⟩ := (hO.d6 h6).2
        obtain ⟨b, vs, ea, hbb, hvs, hB, _⟩ := hO.k12 h11
        refine wp_store_row _ (.tmp 9) (.tmp 34) rfl b (sc s' B' q') ea (by have h1 := ex; rw [ev] at h1; simpa [Act.eval] using h1) _ _ hB info_r hvs (ints_one _ _ _ _ _ _) ?_
        exact hK undef _ ⟨u, v, hO.st14 (by omega) h6 h11 ea hbb hB rfl ev⟩ trivial (fun j u _ _ hu => FreeD.wl_any hu)
      · intro listed A0 W hA hno hr K' hK
        have hsl := hA.size
        simp at hsl
        have hts : A0.tmps.size = 76 := hA.slots.trans rfl
        have ez : A0.tmps[35]?.getD undef = .bool true := FreeD.slot_is (hA.val 8 _ rfl (hr ⟨8, .data⟩ (by simp) rfl))
        simp [go_sem, ez]
        exact hK _ _ (hA.c.step 13 10 _ (by decide) (by decide) (Below.refl _ _)) rfl (fun j u _ _ hu => FreeD.wl_any hu)
    · intro A0 W hA
      have s10 : A0.tmps.getD 10 undef = .bool true := hA.val 13 _ rfl rfl
      have hde := hA.defers
      obtain ⟨y, hy, ee⟩ := frQ rfl hA.slots (fun d hd => hA.kept d (kept_of (dsts := [28, 29, 30, 31, 32, 27, 33, 34, 35, 8, 9, 10]) (by kernel_rfl) hd))
      have hO := hA.c.belw
      have H5 := Lib.hid (H4.out.trans (hO.mono H4.out.size))
      clear hA hO X4 O4 V4 OI4
      obtain ⟨tm, de⟩ := A0
      simp only at s10 ee hde hy
      have t10 := (hy 10).symm.trans s10
      rw [t10] at ee
      clear hy s10 t10
      subst ee hde
      have K1 : Hid (∀ X, Calls Try.prog 12 #[.agg #[.slice A s.t.length p, .int .i64 s.v, .int .i64 s.c, .int .i64 s.n], .int .i64 kk] X fun e w' => e = .returned (.int .i64 (need s kk)) ∧ Below X.heap.size X w') := Lib.hid (fun X => pneed_any s A p kk X HR.out)
      have K2 : Hid (∀ X, Calls Try.prog 13 #[.agg #[.slice A s.t.length p, .int .i64 s.v, .int .i64 s.c, .int .i64 s.n], .int .i64 kk] X fun e w' => e = .returned (.int .i64 (need s kk)) ∧ Below X.heap.size X w') := Lib.hid (fun X => rneed_any s A p kk X HR.out)
      have K3 : Hid (∀ X, Calls Try.prog 14 #[.agg #[.slice A s.t.length p, .int .i64 s.v, .int .i64 s.c, .int .i64 s.n], .int .i64 kk] X fun e w' => e = .returned (.int .i64 (left s kk)) ∧ Below X.heap.size X w') := Lib.hid (fun X => pleft_any s A p kk X HR.out HK.out)
      have K4 : Hid (∀ X, Calls Try.prog 15 #[.agg #[.slice A s.t.length p, .int .i64 s.v, .int .i64 s.c, .int .i64 s.n], .int .i64 kk] X fun e w' => e = .returned (.int .i64 (left s kk)) ∧ Below X.heap.size X w') := Lib.hid (fun X => rleft_any s A p kk X HR.out HK.out)
      have K5 : Hid (∀ X, Calls Try.prog 16 #[.agg #[.slice A s.t.length p, .int .i64 s.v, .int .i64 s.c, .int .i64 s.n], .bool true] X fun e w' => e = .returned (.int .i64 (next s true)) ∧ Below X.heap.size X w') := Lib.hid (fun X => pnext_any s A p true X HR.out)
      have K6 : Hid (∀ X, Calls Try.prog 17 #[.agg #[.slice A s.t.length p, .int .i64 s.v, .int .i64 s.c, .int .i64 s.n], .bool true] X fun e w' => e = .returned (.int .i64 (next s true)) ∧ Below X.heap.size X w') := Lib.hid (fun X => rnext_any s A p true X)
      have K7 : Hid (∀ X, Calls Try.prog 16 #[.agg #[.slice A s.t.length p, .int .i64 s.v, .int .i64 s.c, .int .i64 s.n], .bool false] X fun e w' => e = .returned (.int .i64 (next s false)) ∧ Below X.heap.size X w') := Lib.hid (fun X => pnext_any s A p false X HR.out)
      have K8 : Hid (∀ X, Calls Try.prog 17 #[.agg #[.slice A s.t.length p, .int .i64 s.v, .int .i64 s.c, .int .i64 s.n], .bool false] X fun e w' => e = .returned (.int .i64 (next s false)) ∧ Below X.heap.size X w') := Lib.hid (fun X => rnext_any s A p false X)
      have KF : Hid (∀ X, Calls Try.prog 18 #[] X fun e w' => e = .returned (.bool true) ∧ Below X.heap.size X w') := Lib.hid (fun X => fixed_any X)
      generalize need s kk = n1 at *
      generalize left s kk = n2 at *
      generalize next s true = n3 at *
      generalize next s false = n4 at *
      have s0 : ∀ jj : In (fun X => Below W.heap.size W X), jj.W.cell? ⟨b0, 0, none⟩ = some (.slice A s.t.length p) := fun jj => (X1.out.later (H5.out.trans (jj.h.mono H5.out.size))).cell 0
      have s1 : ∀ jj : In (fun X => Below W.heap.size W X), jj.W.cell? ⟨b0, 1, none⟩ = some (.int .i64 s.v) := fun jj => (X1.out.later (H5.out.trans (jj.h.mono H5.out.size))).cell 1
      have s2 : ∀ jj : In (fun X => Below W.heap.size W X), jj.W.cell? ⟨b0, 2, none⟩ = some (.int .i64 s.c) := fun jj => (X1.out.later (H5.out.trans (jj.h.mono H5.out.size))).cell 2
      have s3 : ∀ jj : In (fun X => Below W.heap.size W X), jj.W.cell? ⟨b0, 3, none⟩ = some (.int .i64 s.n) := fun jj => (X1.out.later (H5.out.trans (jj.h.mono H5.out.size))).cell 3
      go_upto_region 8 with fail
      have I : Below W.heap.size W { W with drawn := W.drawn + 1 } := (Below.refl _ _).drew
      have hne : Nonempty (In (fun X => Below W.heap.size W X)) := ⟨⟨_, I⟩⟩
      refine region_class (fun X => Below W.heap.size W X) (by kernel_rfl) (by kernel_rfl) I ?_
      repeat (go_big_quiet_step (first
        | (go_at_call 12; with_reducible exact class_call _ (fun hi => (K1.out _).mono fun _ _ ⟨he, hb⟩ => ⟨he, hi.trans (hb.mono hi.size)⟩))
        | (go_at_call 13; with_reducible exact class_call _ (fun hi => (K2.out _).mono fun _ _ ⟨he, hb⟩ => ⟨he, hi.trans (hb.mono hi.size)⟩))
        | (go_at_call 14; with_reducible exact class_call _ (fun hi => (K3.out _).mono fun _ _ ⟨he, hb⟩ => ⟨he, hi.trans (hb.mono hi.size)⟩))
        | (go_at_call 15; with_reducible exact class_call _ (fun hi => (K4.out _).mono fun _ _ ⟨he, hb⟩ => ⟨he, hi.trans (hb.mono hi.size)⟩))
        | (go_at_call 16; with_reducible exact class_call _ (fun hi => (K5.out _).mono fun _ _ ⟨he, hb⟩ => ⟨he, hi.trans (hb.mono hi.size)⟩))
        | (go_at_call 17; with_reducible exact class_call _ (fun hi => (K6.out _).mono fun _ _ ⟨he, hb⟩ => ⟨he, hi.trans (hb.mono hi.size)⟩))
        | (go_at_call 16; with_reducible exact class_call _ (fun hi => (K7.out _).mono fun _ _ ⟨he, hb⟩ => ⟨he, hi.trans (hb.mono hi.size)⟩))
        | (go_at_call 17; with_reducible exact class_call _ (fun hi => (K8.out _).mono fun _ _ ⟨he, hb⟩ => ⟨he, hi.trans (hb.mono hi.size)⟩))
        | (go_at_call 21; with_reducible exact class_call _ (fun hi => (CF.out _).mono fun _ _ ⟨he, hb⟩ => ⟨he, hi.trans (hb.mono hi.size)⟩))
        | (go_at_call 18; with_reducible exact class_call _ (fun hi => (KF.out _).mono fun _ _ ⟨he, hb⟩ => ⟨he, hi.trans (hb.mono hi.size)⟩))))
      refine wpQuiet_nil ?_
      rintro _ ⟨jj, rfl⟩
      have H9 := Lib.hid (H5.out.trans (jj.h.mono H5.out.size))
      clear I hne s0 s1 s2 s3
      generalize jj.W = W9 at *
      clear jj
      go_wp2_with fail
      go_ret
      exact ⟨rfl, HW.out.trans (H9.out.mono HW.out.size)⟩

set_option maxRecDepth 100000 in
theorem lifted (os : Os) (started : os.Started) (H : Type) (enc : TypeId × Value → H) :
    ReturnsInHanded {} Try.checked os 4 .any (Rows.sweepOnceSpec.pre6 enc Try.prog Try.f4 Rows.sweepOnceRow.domain false) (Rows.sweepOnceSpec.post enc Try.prog Try.f4 false true false false) := by
  refine returnsInHanded_of_change (C := Try.checked) own started (by kernel_rfl) Try.func4
    (ChangeSpec.witness6 (enc := enc) (C := Try.checked) false ⟨#[], #[.agg #[.slice none 0 0, .int .i64 0, .int .i64 0, .int .i64 0], .agg #[.int .i64 0, .int .i64 0, .int .i64 0, .slice none 0 0], .int .u8 0], []⟩ 8 (by kernel_rfl) (by kernel_rfl) (by kernel_rfl) (by kernel_rfl)) ?_
  intro W base args ds gs before hval0 hW hcnd _
  have hval : ∀ (j : Nat) t v, Try.f4.params[j]? = some t → args[j]? = some v → Value.okWide Try.prog W .any base t v := hval0
  have hW' := hW
  obtain ⟨p, q, hA0, hV, rfl, hfz, hnd⟩ := hW
  have hA : DataW.TrodAll enc Try.prog W 0 (fun _ => true) true Try.f4.params.toList args.toList ds p := hA0
  rw [Try.params4] at hA hval
  obtain ⟨v0, vs0, d0, ds0, p0, q0, hargs, rfl, rfl, h0, r0⟩ := trodAll_cons hA
  obtain ⟨v1, vs1, d1, ds1, p1, q1, rfl, rfl, rfl, h1, r1⟩ := trodAll_cons r0
  obtain ⟨v2, vs2, d2, ds2, p2, q2, rfl, rfl, rfl, h2, r2⟩ := trodAll_cons r1
  obtain ⟨rfl, rfl, rfl⟩ := trodAll_nil r2
  obtain rfl : args = #[v0, v1, v2] := by cases args; simp_all
  obtain ⟨rfl, rfl⟩ := trodVars_none hV
  obtain ⟨st0, Ad0, cp0, rfl, g0, l0⟩ := open_state (hval 0 25 v0 rfl rfl) h0
  obtain ⟨o1, rfl, g1⟩ := open_cl (hval 1 32 v1 rfl rfl) h1
  obtain ⟨a2, rfl, rfl, rfl, w2⟩ := open_int Try.underlying5 (hval 2 5 v2 rfl rfl) h2
  clear hA0 hval0
  try simp only [List.append_nil] at hW'
  try simp only [List.nil_append] at hW'
  have hlt := fun x hx => hW'.lt x hx
  refine (walk st0 Ad0 cp0 o1 a2 W g0 l0 g1 (by simp [Lit.wf] at w2; exact w2)).mono fun e W' ⟨he, hg⟩ => ?_
  subst he
  refine ⟨_, rfl, post_mem hW' (fun _ _ _ => (trodAll_cons_mk (shut_bool Try.underlying4 _) trodAll_mk0)) (fun sp hsp => ?_) (fun _ => rfl) hg (ok_one (by kernel_rfl) rfl (okWide_bool_mk Try.underlying4 _))⟩
  have hall := (trodAll_cons_mk (arg_same (sp := sp) laid (by kernel_rfl) (of_decide_eq_true (by kernel_rfl)) h0 hg (by intro x hx; simp_all) hlt hsp) (trodAll_cons_mk (arg_same (sp := sp) laid (by kernel_rfl) (of_decide_eq_true (by kernel_rfl)) h1 hg (by intro x hx; simp_all) hlt hsp) (trodAll_cons_mk (arg_same (sp := sp) laid (by kernel_rfl) (of_decide_eq_true (by kernel_rfl)) h2 hg (by intro x hx; simp_all) hlt hsp) trodAll_mk0)))
  try simp only [List.append_nil] at hall
  try simp only [List.nil_append] at hall
  exact hall

theorem over : Rows.sweepOnceRow.holds Try.pinned (OpenSpec.ofChange Rows.sweepOnceSpec) :=
  OpenClaim.holds_of_wide 4 Try.f4 rfl rfl rfl rfl rfl rfl rfl ⟨rfl, rfl, rfl, rfl, rfl⟩ rfl rfl rfl rfl rfl (by kernel_rfl) Try.func4 (by kernel_rfl)
    (of_decide_eq_true (by kernel_rfl)) (by unfold Func.isWrapper; first | (rw [if_pos (by decide +kernel)]; kernel_rfl) | (rw [if_neg (by decide +kernel)]; exact ⟨rfl, rfl⟩))
    (fun os started H enc _ => lifted os started H enc)

theorem proved : Rows.SweepOnceSaid := over
#print axioms proved
end Go.Proofs.Ytfhdckmpodmejaa.sweepOnce
