/- For all inputs the statement SweepDoes about sweep returns true, and changes nothing. Conditions: none. -/
import Derived.Test.YtfhdckmpodmejaaSwI
import Derived.Test.YtfhdckmpodmejaaSwK
import Derived.Test.YtfhdckmpodmejaaClass
import Derived.Deep.RegionHeld3
import Derived.Test.YtfhdckmpodmejaaSwO
import Derived.ProofKit
import Derived.OpenShut
import Derived.ShutString
import Derived.SizedLaws
namespace Go.Proofs.Ytfhdckmpodmejaa.sweepDoes
open Go.ChangeShapes Go.WideShapes Go.ChangeAt Go.RowKit Go.Lib Go.MapKept
open Go.ChangeMaps (open_string shut_string)
set_option linter.unusedVariables false
set_option linter.unusedSimpArgs false

theorem own : ownKnob Try.prog.godebug = none := by kernel_rfl
theorem laid : laidOutB Try.prog = true := by kernel_rfl

set_option maxRecDepth 100000
open Sw Rw Sp
theorem arrF80 {cs : Array Value} (h : cs.size = 80) : ∃ y : Nat → Value, (∀ i, cs.getD i undef = y i) ∧ cs = #[y 0, y 1, y 2, y 3, y 4, y 5, y 6, y 7, y 8, y 9, y 10, y 11, y 12, y 13, y 14, y 15, y 16, y 17, y 18, y 19, y 20, y 21, y 22, y 23, y 24, y 25, y 26, y 27, y 28, y 29, y 30, y 31, y 32, y 33, y 34, y 35, y 36, y 37, y 38, y 39, y 40, y 41, y 42, y 43, y 44, y 45, y 46, y 47, y 48, y 49, y 50, y 51, y 52, y 53, y 54, y 55, y 56, y 57, y 58, y 59, y 60, y 61, y 62, y 63, y 64, y 65, y 66, y 67, y 68, y 69, y 70, y 71, y 72, y 73, y 74, y 75, y 76, y 77, y 78, y 79] := by
  refine ⟨fun i => cs.getD i undef, fun _ => rfl, ?_⟩
  have e : cs = ((List.range 80).map fun i => cs.getD i undef).toArray := by
    apply Array.ext
    · simp [h]
    · intro i h1 h2
      simp [h1]
  exact e.trans rfl
theorem kept_of {ops : Array Oper} {dsts : List Nat} {listed : Array Bool} (h : ops.all (fun o => match o.dst with | none => true | some d => dsts.contains d) = true) {d : Nat} (hd : dsts.contains d = false) : ∀ i o, ops[i]? = some o → listed.getD i false = true → o.dst ≠ some d := by
  intro i o hi _ e
  rw [Array.all_eq_true_iff_forall_mem] at h
  have := h o (Array.mem_of_getElem? hi)
  rw [e] at this
  simp only at this
  rw [hd] at this
  cases this
set_option maxRecDepth 100000 in
theorem frD {z0 z1 z2 z3 z4 z5 z6 z7 z8 z9 z10 z11 z12 z13 z14 z15 z16 z17 z18 z19 z20 z21 z22 z23 z24 z25 z26 z27 z28 z29 z30 z31 z32 z33 z34 z35 z36 z37 z38 z39 z40 z41 z42 z43 z44 z45 z46 z47 z48 z49 z50 z51 z52 z53 z54 z55 z56 z57 z58 z59 z60 z61 z62 z63 z64 z65 z66 z67 z68 z69 z70 z71 z72 z73 z74 z75 z76 z77 z78 z79 : Value} {ts us : Array Value} (hz : ts = #[z0, z1, z2, z3, z4, z5, z6, z7, z8, z9, z10, z11, z12, z13, z14, z15, z16, z17, z18, z19, z20, z21, z22, z23, z24, z25, z26, z27, z28, z29, z30, z31, z32, z33, z34, z35, z36, z37, z38, z39, z40, z41, z42, z43, z44, z45, z46, z47, z48, z49, z50, z51, z52, z53, z54, z55, z56, z57, z58, z59, z60, z61, z62, z63, z64, z65, z66, z67, z68, z69, z70, z71, z72, z73, z74, z75, z76, z77, z78, z79]) (hs : us.size = ts.size) (hk : ∀ d, [28, 29, 30, 31, 32, 33, 34, 27, 35, 36, 37, 9, 10, 11].contains d = false → us.getD d undef = ts.getD d undef) :
    ∃ y : Nat → Value, (∀ i, us.getD i undef = y i) ∧ us = #[z0, z1, z2, z3, z4, z5, z6, z7, z8, y 9, y 10, y 11, z12, z13, z14, z15, z16, z17, z18, z19, z20, z21, z22, z23, z24, z25, z26, y 27, y 28, y 29, y 30, y 31, y 32, y 33, y 34, y 35, y 36, y 37, z38, z39, z40, z41, z42, z43, z44, z45, z46, z47, z48, z49, z50, z51, z52, z53, z54, z55, z56, z57, z58, z59, z60, z61, z62, z63, z64, z65, z66, z67, z68, z69, z70, z71, z72, z73, z74, z75, z76, z77, z78, z79] := by
  obtain ⟨y, hy, e⟩ := arrF80 (cs := us) (by rw [hs, hz]; rfl)
  subst hz
  refine ⟨y, hy, e.trans ?_⟩
  have e0 : y 0 = z0 := (hy 0).symm.trans (hk 0 rfl)
  have e1 : y 1 = z1 := (hy 1).symm.trans (hk 1 rfl)
  have e2 : y 2 = z2 := (hy 2).symm.trans (hk 2 rfl)
  have e3 : y 3 = z3 := (hy 3).symm.trans (hk 3 rfl)
  have e4 : y 4 = z4 := (hy 4).symm.trans (hk 4 rfl)
  have e5 : y 5 = z5 := (hy 5).symm.trans (hk 5 rfl)
  have e6 : y 6 = z6 := (hy 6).symm.trans (hk 6 rfl)
  have e7 : y 7 = z7 := (hy 7).symm.trans (hk 7 rfl)
  have e8 : y 8 = z8 := (hy 8).symm.trans (hk 8 rfl)
  have e12 : y 12 = z12 := (hy 12).symm.trans (hk 12 rfl)
  have e13 : y 13 = z13 := (hy 13).symm.trans (hk 13 rfl)
  have e14 : y 14 = z14 := (hy 14).symm.trans (hk 14 rfl)
  have e15 : y 15 = z15 := (hy 15).symm.trans (hk 15 rfl)
  have e16 : y 16 = z16 := (hy 16).symm.trans (hk 16 rfl)
  have e17 : y 17 = z17 := (hy 17).symm.trans (hk 17 rfl)
  have e18 : y 18 = z18 := (hy 18).symm.trans (hk 18 rfl)
  have e19 : y 19 = z19 := (hy 19).symm.trans (hk 19 rfl)
  have e20 : y 20 = z20 := (hy 20).symm.trans (hk 20 rfl)
  have e21 : y 21 = z21 := (hy 21).symm.trans (hk 21 rfl)
  have e22 : y 22 = z22 := (hy 22).symm.trans (hk 22 rfl)
  have e23 : y 23 = z23 := (hy 23).symm.trans (hk 23 rfl)
  have e24 : y 24 = z24 := (hy 24).symm.trans (hk 24 rfl)
  have e25 : y 25 = z25 := (hy 25).symm.trans (hk 25 rfl)
  have e26 : y 26 = z26 := (hy 26).symm.trans (hk 26 rfl)
  have e38 : y 38 = z38 := (hy 38).symm.trans (hk 38 rfl)
  have e39 : y 39 = z39 := (hy 39).symm.trans (hk 39 rfl)
  have e40 : y 40 = z40 := (hy 40).symm.trans (hk 40 rfl)
  have e41 : y 41 = z41 := (hy 41).symm.trans (hk 41 rfl)
  have e42 : y 42 = z42 := (hy 42).symm.trans (hk 42 rfl)
  have e43 : y 43 = z43 := (hy 43).symm.trans (hk 43 rfl)
  have e44 : y 44 = z44 := (hy 44).symm.trans (hk 44 rfl)
  have e45 : y 45 = z45 := (hy 45).symm.trans (hk 45 rfl)
  have e46 : y 46 = z46 := (hy 46).symm.trans (hk 46 rfl)
  have e47 : y 47 = z47 := (hy 47).symm.trans (hk 47 rfl)
  have e48 : y 48 = z48 := (hy 48).symm.trans (hk 48 rfl)
  have e49 : y 49 = z49 := (hy 49).symm.trans (hk 49 rfl)
  have e50 : y 50 = z50 := (hy 50).symm.trans (hk 50 rfl)
  have e51 : y 51 = z51 := (hy 51).symm.trans (hk 51 rfl)
  have e52 : y 52 = z52 := (hy 52).symm.trans (hk 52 rfl)
  have e53 : y 53 = z53 := (hy 53).symm.trans (hk 53 rfl)
  have e54 : y 54 = z54 := (hy 54).symm.trans (hk 54 rfl)
  have e55 : y 55 = z55 := (hy 55).symm.trans (hk 55 rfl)
  have e56 : y 56 = z56 := (hy 56).symm.trans (hk 56 rfl)
  have e57 : y 57 = z57 := (hy 57).symm.trans (hk 57 rfl)
  have e58 : y 58 = z58 := (hy 58).symm.trans (hk 58 rfl)
  have e59 : y 59 = z59 := (hy 59).symm.trans (hk 59 rfl)
  have e60 : y 60 = z60 := (hy 60).symm.trans (hk 60 rfl)
  have e61 : y 61 = z61 := (hy 61).symm.trans (hk 61 rfl)
  have e62 : y 62 = z62 := (hy 62).symm.trans (hk 62 rfl)
  have e63 : y 63 = z63 := (hy 63).symm.trans (hk 63 rfl)
  have e64 : y 64 = z64 := (hy 64).symm.trans (hk 64 rfl)
  have e65 : y 65 = z65 := (hy 65).symm.trans (hk 65 rfl)
  have e66 : y 66 = z66 := (hy 66).symm.trans (hk 66 rfl)
  have e67 : y 67 = z67 := (hy 67).symm.trans (hk 67 rfl)
  have e68 : y 68 = z68 := (hy 68).symm.trans (hk 68 rfl)
  have e69 : y 69 = z69 := (hy 69).symm.trans (hk 69 rfl)
  have e70 : y 70 = z70 := (hy 70).symm.trans (hk 70 rfl)
  have e71 : y 71 = z71 := (hy 71).symm.trans (hk 71 rfl)
  have e72 : y 72 = z72 := (hy 72).symm.trans (hk 72 rfl)
  have e73 : y 73 = z73 := (hy 73).symm.trans (hk 73 rfl)
  have e74 : y 74 = z74 := (hy 74).symm.trans (hk 74 rfl)
  have e75 : y 75 = z75 := (hy 75).symm.trans (hk 75 rfl)
  have e76 : y 76 = z76 := (hy 76).symm.trans (hk 76 rfl)
  have e77 : y 77 = z77 := (hy 77).symm.trans (hk 77 rfl)
  have e78 : y 78 = z78 := (hy 78).symm.trans (hk 78 rfl)
  have e79 : y 79 = z79 := (hy 79).symm.trans (hk 79 rfl)
  simp only [e0, e1, e2, e3, e4, e5, e6, e7, e8, e12, e13, e14, e15, e16, e17, e18, e19, e20, e21, e22, e23, e24, e25, e26, e38, e39, e40, e41, e42, e43, e44, e45, e46, e47, e48, e49, e50, e51, e52, e53, e54, e55, e56, e57, e58, e59, e60, e61, e62, e63, e64, e65, e66, e67, e68, e69, e70, e71, e72, e73, e74, e75, e76, e77, e78, e79]

/-- Both states behind some calls. -/
structure Inv (w : World) (n5 n6 : Nat) (s : St) (A : Option Addr) (p : Nat) (B : Option Addr) (q : Nat) (W : World) : Prop where
  b : Below w.heap.size w W
  r : Right s
  a5 : w.heap.size ≤ n5
  a6 : w.heap.size ≤ n6
  k5 : Sp.Blk W n5 25 (sc s A p)
  k6 : Sp.Blk W n6 27 (sc s B q)
  va : VR W A s.t.length (iv s.t)
  vb : VR W B s.t.length (iv s.t)
  na : Od.Nb A s.t.length n5 ∧ Od.Nb A s.t.length n6
  nb : Od.Nb B s.t.length n5 ∧ Od.Nb B s.t.length n6
set_option maxHeartbeats 8000000 in
theorem walk (Al : Option Addr) (N c : Nat) (L : List Cl) (k : Int) (w : World) (hL : CW w Al N L) (hN : N ≤ maxLen) (hk : 0 ≤ k ∧ k ≤ 255) :
    Calls Try.prog 3 #[.slice Al N c, .int .u8 k] w fun e w' => e = .returned (.bool true) ∧ Below w.heap.size w w' := by
  have HC := Lib.hid hL
  have HN := Lib.hid hN
  have HLN := Lib.hid hL.len
  have hkk : ((k : Int).tmod 31) = k % 31 := Int.tmod_eq_emod_of_nonneg hk.1
  clear hL hN
  have zvp := Try.zeroValue25
  have zvr := Try.zeroValue27
  go_enter Try.func3, Try.ntmps3
  go_upto_region 3 with (first
    | (go_at_call 8; refine (pidle_any _).mono ?_; rintro e1 w1 ⟨rfl, hb1⟩; have H1 := Lib.hid hb1; clear hb1)
    | (go_at_call 9; refine (ridle_any _).mono ?_; rintro e2 w2 ⟨rfl, hb2⟩; have H2 := Lib.hid (H1.out.trans (hb2.mono H1.out.size)); clear hb2))
  change Code.wp _ _ _ _ ((w2.alloc (.cells (sc idle none 0) 25)).alloc (.cells (sc idle none 0) 27))
  have I0 : Hid (Inv w w2.heap.size (w2.heap.size + 1) idle none 0 none 0 ((w2.alloc (.cells (sc idle none 0) 25)).alloc (.cells (sc idle none 0) 27))) := Lib.hid ⟨H2.out.trans (((below1 w2 _).alloc (by simp) _).mono H2.out.size), idle_right, H2.out.size, by have := H2.out.size; omega, (Sp.Blk.new _ _ _).later (below1 _ _), Sp.Blk.at_ _ _ _ (by simp), VR.nil _ _, VR.nil _ _, ⟨fun h => absurd h (by decide), fun h => absurd h (by decide)⟩, ⟨fun h => absurd h (by decide), fun h => absurd h (by decide)⟩⟩
  obtain ⟨kk, hkk2⟩ : ∃ kk, k % 31 = kk := ⟨_, rfl⟩
  have hk0 : 0 ≤ kk ∧ kk ≤ 30 := by omega
  rw [hkk2]
  clear hkk hkk2 hk H1 H2
  have HK := Lib.hid hk0
  clear hk0
  generalize (w2.alloc (.cells (sc idle none 0) 25)).alloc (.cells (sc idle none 0) 27) = W3 at *
  generalize hn6 : w2.heap.size + 1 = n6 at *
  generalize w2.heap.size = n5 at *
  clear hn6 w2
  go_loopg [8] N (fun gk s8 wr => ∃ (i : Nat) (s : St) (A : Option Addr) (p : Nat) (B : Option Addr) (q : Nat), i ≤ N ∧ gk = N - i ∧ s8 = .int .i64 (i : Nat) ∧ Hid (Inv w n5 n6 s A p B q wr))
  case atStart => exact ⟨0, idle, none, 0, none, 0, by omega, rfl, rfl, I0⟩
  case round =>
    obtain ⟨i, s, A, p, B, q, hi, hgk, rfl, HI⟩ := hrel
    have HG := Lib.hid hgk
    clear hgk I0
    by_cases hlt : i < N
    case neg =>
      have hl1 : ¬ ((i : Int) < (N : Int)) := by omega
      have d1 : decide ((i : Int) < (N : Int)) = false := decide_eq_false hl1
      go_wp2_with (go_at_call 18; refine (fixed_any _).mono ?_; rintro e5 w5 ⟨rfl, hb5⟩; have H5 := Lib.hid (HI.out.b.trans (hb5.mono HI.out.b.size)); clear hb5)
      go_ret
      exact ⟨rfl, H5.out⟩
    have hl1 : (i : Int) < (N : Int) := by omega
    have d1 : decide ((i : Int) < (N : Int)) = true := decide_eq_true hl1
    by_cases h60 : (i : Int) < 60
    case neg =>
      have d2 : decide ((i : Int) < 60) = false := decide_eq_false h60
      go_wp2_with (go_at_call 18; refine (fixed_any _).mono ?_; rintro e5 w5 ⟨rfl, hb5⟩; have H5 := Lib.hid (HI.out.b.trans (hb5.mono HI.out.b.size)); clear hb5)
      go_ret
      exact ⟨rfl, H5.out⟩
    have d2 : decide ((i : Int) < 60) = true := decide_eq_true h60
    have wi : IntKind.i64.wrap ((i : Int) + 1) = (i : Int) + 1 := IntWalk.i64_in _ (by omega)
    obtain ⟨g, off, rfl, hc⟩ := HC.out.rc (by omega)
    obtain ⟨o, ho⟩ : ∃ o, L[i]? = some o := ⟨_, List.getElem?_eq_getElem (by have := HLN.out; omega)⟩
    have c0w : w.cell? ⟨g, off + i * 4, none⟩ = some (.int .i64 o.k) := hc i 0 o ho (by omega)
    have c1w : w.cell? ⟨g, off + i * 4 + 1, none⟩ = some (.int .i64 o.s) := hc i 1 o ho (by omega)
    have c2w : w.cell? ⟨g, off + i * 4 + 2, none⟩ = some (.int .i64 o.n) := hc i 2 o ho (by omega)
    have c3w : w.cell? ⟨g, off + i * 4 + 3, none⟩ = some (.slice o.A o.m o.c) := hc i 3 o ho (by omega)
    have HCC := Lib.hid (And.intro c0w (And.intro c1w (And.intro c2w c3w)))
    have OI := Lib.hid ((HC.out.ok o (List.mem_of_getElem? ho)).later HI.out.b)
    clear hc ho c0w c1w c2w c3w h60
    go_upto_region 5 with fail
    refine FreeC.wp_freeC (FreeD.wl [some (.agg #[.slice A s.t.length p, .int .i64 s.v, .int .i64 s.c, .int .i64 s.n]), some (.agg #[.slice B s.t.length q, .int .i64 s.v, .int .i64 s.c, .int .i64 s.n]), some (.slice (some ⟨g, off, none⟩) N c), some (.int .i64 (i : Nat)), some (.pointer (some ⟨g, off + i * 4, none⟩)), some (.agg #[.int .i64 o.k, .int .i64 o.s, .int .i64 o.n, .slice o.A o.m o.c]), none, none, none, none, some (.bool true), none, none, none, none, some (.bool true)]) (Od.O8 wr (fun g => g = n5 ∨ g = n6)) (by kernel_rfl) (by kernel_rfl) (Od.O8.start _ _ _) ?_ ?_
    · refine ⟨?_, ?_, ?_, ?_, ?_, ?_, ?_, ?_, ?_, ?_, ?_, ?_, ?_, ?_, ?_, ?_, trivial⟩
      · intro listed A0 W hA hno hr K' hK
        have hsl := hA.size
        simp at hsl
        have hts : A0.tmps.size = 80 := hA.slots.trans rfl
        have e5 : A0.tmps[5]?.getD undef = .pointer (some ⟨n5, 0, none⟩) := FreeD.slot_is ((hA.kept 5 (Free.not_dst (by kernel_rfl))).trans rfl)
        have c0 : W.cell? ⟨n5, 0, none⟩ = some (.slice A s.t.length p) := (HI.out.k5.later hA.c.belw).cell 0
        have c1 : W.cell? ⟨n5, 1, none⟩ = some (.int .i64 s.v) := (HI.out.k5.later hA.c.belw).cell 1
        have c2 : W.cell? ⟨n5, 2, none⟩ = some (.int .i64 s.c) := (HI.out.k5.later hA.c.belw).cell 2
        have c3 : W.cell? ⟨n5, 3, none⟩ = some (.int .i64 s.n) := (HI.out.k5.later hA.c.belw).cell 3
        simp [go_sem, e5, c0, c1, c2, c3]
        exact hK _ _ (hA.c.step 0 28 _ (by decide) (by decide) (Below.refl _ _)) rfl (fun j u _ _ hu => FreeD.wl_any hu)
      · intro listed A0 W hA hno hr K' hK
        have hsl := hA.size
        simp at hsl
        have hts : A0.tmps.size = 80 := hA.slots.trans rfl
        have e6 : A0.tmps[6]?.getD undef = .pointer (some ⟨n6, 0, none⟩) := FreeD.slot_is ((hA.kept 6 (Free.not_dst (by kernel_rfl))).trans rfl)
        have c0 : W.cell? ⟨n6, 0, none⟩ = some (.slice B s.t.length q) := (HI.out.k6.later hA.c.belw).cell 0
        have c1 : W.cell? ⟨n6, 1, none⟩ = some (.int .i64 s.v) := (HI.out.k6.later hA.c.belw).cell 1
        have c2 : W.cell? ⟨n6, 2, none⟩ = some (.int .i64 s.c) := (HI.out.k6.later hA.c.belw).cell 2
        have c3 : W.cell? ⟨n6, 3, none⟩ = some (.int .i64 s.n) := (HI.out.k6.later hA.c.belw).cell 3
        simp [go_sem, e6, c0, c1, c2, c3]
        exact hK _ _ (hA.c.step 1 29 _ (by decide) (by decide) (Below.refl _ _)) rfl (fun j u _ _ hu => FreeD.wl_any hu)
      · intro listed A0 W hA hno hr K' hK
        have hsl := hA.size
        simp at hsl
        have hts : A0.tmps.size = 80 := hA.slots.trans rfl
        have e0 : A0.tmps[0]?.getD undef = .slice (some ⟨g, off, none⟩) N c := FreeD.slot_is ((hA.kept 0 (Free.not_dst (by kernel_rfl))).trans rfl)
        simp [go_sem, e0]
        exact hK _ _ (hA.c.step 2 30 _ (by decide) (by decide) (Below.refl _ _)) rfl (fun j u _ _ hu => FreeD.wl_any hu)
      · intro listed A0 W hA hno hr K' hK
        have hsl := hA.size
        simp at hsl
        have hts : A0.tmps.size = 80 := hA.slots.trans rfl
        have e8 : A0.tmps[8]?.getD undef = .int .i64 (i : Nat) := FreeD.slot_is ((hA.kept 8 (Free.not_dst (by kernel_rfl))).trans rfl)
        simp [go_sem, e8]
        exact hK _ _ (hA.c.step 3 31 _ (by decide) (by decide) (Below.refl _ _)) rfl (fun j u _ _ hu => FreeD.wl_any hu)
      · intro listed A0 W hA hno hr K' hK
        have hsl := hA.size
        simp at hsl
        have hts : A0.tmps.size = 80 := hA.slots.trans rfl
        have e30 : A0.tmps[30]?.getD undef = .slice (some ⟨g, off, none⟩) N c := FreeD.slot_is (hA.val 2 _ rfl (hr ⟨2, .data⟩ (by simp) rfl))
        have e31 : A0.tmps[31]?.getD undef = .int .i64 (i : Nat) := FreeD.slot_is (hA.val 3 _ rfl (hr ⟨3, .data⟩ (by simp) rfl))
        simp [go_sem, e30, e31, hl1]
        exact hK _ _ (hA.c.step 4 32 _ (by decide) (by decide) (Below.refl _ _)) rfl (fun j u _ _ hu => FreeD.wl_any hu)
      · intro listed A0 W hA hno hr K' hK
        have hsl := hA.size
        simp at hsl
        have hts : A0.tmps.size = 80 := hA.slots.trans rfl
        have e32 : A0.tmps[32]?.getD undef = .pointer (some ⟨g, off + i * 4, none⟩) := FreeD.slot_is (hA.val 4 _ rfl (hr ⟨4, .data⟩ (by simp) rfl))
        have hbw := HI.out.b.trans (hA.c.belw.mono HI.out.b.size)
        have c0 := (hbw.cell (World.block_lt_of_cell? _ _ HCC.out.1)).trans HCC.out.1
        have c1 := (hbw.cell (World.block_lt_of_cell? _ _ HCC.out.2.1)).trans HCC.out.2.1
        have c2 := (hbw.cell (World.block_lt_of_cell? _ _ HCC.out.2.2.1)).trans HCC.out.2.2.1
        have c3 := (hbw.cell (World.block_lt_of_cell? _ _ HCC.out.2.2.2)).trans HCC.out.2.2.2
        simp [go_sem, e32, c0, c1, c2, c3]
        exact hK _ _ (hA.c.step 5 33 _ (by decide) (by decide) (Below.refl _ _)) rfl (fun j u _ _ hu => FreeD.wl_any hu)
      · intro listed A0 W hA hno hr K' hK
        have hsl := hA.size
        simp at hsl
        have hts : A0.tmps.size = 80 := hA.slots.trans rfl
        have e28 : A0.tmps[28]?.getD undef = .agg #[.slice A s.t.length p, .int .i64 s.v, .int .i64 s.c, .int .i64 s.n] := FreeD.slot_is (hA.val 0 _ rfl (hr ⟨0, .data⟩ (by simp) rfl))
        have e29 : A0.tmps[29]?.getD undef = .agg #[.slice B s.t.length q, .int .i64 s.v, .int .i64 s.c, .int .i64 s.n] := FreeD.slot_is (hA.val 1 _ rfl (hr ⟨1, .data⟩ (by simp) rfl))
        have e33 : A0.tmps[33]?.getD undef = .agg #[.int .i64 o.k, .int .i64 o.s, .int .i64 o.n, .slice o.A o.m o.c] := FreeD.slot_is (hA.val 5 _ rfl (hr ⟨5, .data⟩ (by simp) rfl))
        simp [go_sem, e28, e29, e33]
        refine (do_any s A p B q o W HI.out.r (HI.out.va.later hA.c.belw) (HI.out.vb.later hA.c.belw) (OI.out.later hA.c.belw)).mono ?_
        rintro e' w' ⟨s', A', p', B', q', hR', rfl, hA', hB', hb', fA, fB⟩
        refine hK (Od.tup3 _ _) w' (hA.c.call (by omega) (FreeD.not_listed (by omega) hno) (by omega) ⟨s', A', p', B', q', rfl, rfl, hR', hA', hB', fun g hg => ?_⟩ hb') trivial (fun j u _ _ hu => FreeD.wl_any hu)
        have z5 := Nat.lt_of_lt_of_le HI.out.k5.lt hA.c.belw.size
        have z6 := Nat.lt_of_lt_of_le HI.out.k6.lt hA.c.belw.size
        refine ⟨?_, ?_⟩
        · rcases fA with ⟨rfl, rfl⟩ | fA
          · rcases hg with (rfl | rfl) | ⟨hg1, _⟩
            · exact HI.out.na.1
            · exact HI.out.na.2
            · exact Od.Nb.far HI.out.va hg1
          · exact fun _ a ha => by have := fA a ha; omega
        · rcases fB with ⟨rfl, rfl⟩ | fB
          · rcases hg with (rfl | rfl) | ⟨hg1, _⟩
            · exact HI.out.nb.1
            · exact HI.out.nb.2
            · exact Od.Nb.far HI.out.vb hg1
          · exact fun _ a ha => by have := fB a ha; omega
      · intro listed A0 W hA hno hr K' hK
        have hsl := hA.size
        simp at hsl
        have hts : A0.tmps.size = 80 := hA.slots.trans rfl
        obtain ⟨u, v, hO⟩ := hA.c
        have h6 := hr ⟨6, .data⟩ (by simp) rfl
        have ec := FreeD.slot_is (hO.d6 h6).1
        simp [go_sem, ec]
        exact hK _ _ ⟨u, v, hO.move h6 (by omega) (by omega)⟩ trivial (fun j u _ _ hu => FreeD.wl_any hu)
      · intro listed A0 W hA hno hr K' hK
        have hsl := hA.size
        simp at hsl
        have hts : A0.tmps.size = 80 := hA.slots.trans rfl
        obtain ⟨u, v, hO⟩ := hA.c
        have h7 := hr ⟨7, .data⟩ (by simp) rfl
        have em := FreeD.slot_is (hO.d7 h7).2
        unfold Od.tup3 at em
        simp [go_sem, em]
        exact hK _ _ ⟨u, v, hO.part8 h7 (by omega) (by omega)⟩ trivial (fun j u _ _ hu => FreeD.wl_any hu)
      · intro listed A0 W hA hno hr K' hK
        have hsl := hA.size
        simp at hsl
        have hts : A0.tmps.size = 80 := hA.slots.trans rfl
        obtain ⟨u, v, hO⟩ := hA.c
        have h7 := hr ⟨7, .data⟩ (by simp) rfl
        have em := FreeD.slot_is (hO.d7 h7).2
        unfold Od.tup3 at em
        simp [go_sem, em]
        exact hK _ _ ⟨u, v, hO.part9 h7 (by omega) (by omega)⟩ trivial (fun j u _ _ hu => FreeD.wl_any hu)
      · intro listed A0 W hA hno hr K' hK
        have hsl := hA.size
        simp at hsl
        have hts : A0.tmps.size = 80 := hA.slots.trans rfl
        obtain ⟨u, v, hO⟩ := hA.c
        have h7 := hr ⟨7, .data⟩ (by simp) rfl
        have em := FreeD.slot_is (hO.d7 h7).2
        unfold Od.tup3 at em
        simp [go_sem, em]
        exact hK _ _ ⟨u, v, hO.step 10 37 _ (by decide) (by decide) (Below.refl _ _)⟩ rfl (fun j u _ _ hu => FreeD.wl_any hu)
      · intro listed A0 W hA hno hr K' hK
        have hsl := hA.size
        simp at hsl
        have hts : A0.tmps.size = 80 := hA.slots.trans rfl
        obtain ⟨u, v, hO⟩ := hA.c
        simp [go_sem, zvp]
        exact hK _ _ ⟨u, v, hO.al11 (by omega) (FreeD.not_listed (by omega) hno) (by omega) _ rfl⟩ trivial (fun j u _ _ hu => FreeD.wl_any hu)
      · intro listed A0 W hA hno hr K' hK
        have hsl := hA.size
        simp at hsl
        have hts : A0.tmps.size = 80 := hA.slots.trans rfl
        obtain ⟨u, v, hO⟩ := hA.c
        simp [go_sem, zvr]
        exact hK _ _ ⟨u, v, hO.al12 (by omega) (FreeD.not_listed (by omega) hno) (by omega) _ rfl⟩ trivial (fun j u _ _ hu => FreeD.wl_any hu)
      · intro listed A0 W hA hno hr K' hK
        have hsl := hA.size
        simp at hsl
        have hts : A0.tmps.size = 80 := hA.slots.trans rfl
        obtain ⟨u, v, hO⟩ := hA.c
        have h8 := hr ⟨8, .data⟩ (by simp) rfl
        have h11 := hr ⟨11, .data⟩ (by simp) rfl
        have h7 := (hO.d8 h8).1
        have h6 := (hO.d7 h7).1
        have ex := (hO.d8 h8).2
        obtain ⟨s', A', p', B', q', eu, ev, _⟩ := (hO.d6 h6).2
        obtain ⟨b, vs, ea, hbb, hvs, hB, _⟩ := hO.k11 h11
        refine wp_store_row _ (.tmp 9) (.tmp 35) rfl b (sc s' A' p') ea (by have h1 := ex; rw [eu] at h1; simpa [Act.eval] using h1) _ _ hB info_p hvs (ints_one _ _ _ _ _ _) ?_
        exact hK undef _ ⟨u, v, hO.st13 (by omega) h6 h11 ea hbb hB rfl eu⟩ trivial (fun j u _ _ hu => FreeD.wl_any hu)
      · intro listed A0 W hA hno hr K' hK
        have hsl := hA.size
        simp at hsl
        have hts : A0.tmps.size = 80 := hA.slots.trans rfl
        obtain ⟨u, v, hO⟩ := hA.c
        have h8 := hr ⟨9, .data⟩ (by simp) rfl
        have h11 := hr ⟨12, .data⟩ (by simp) rfl
        have h7 := (hO.d9 h8).1
        have h6 := (hO.d7 h7).1
        have ex := (hO.d9 h8).2
        obtain ⟨s', A', p', B', q', eu, ev, _⟩ := (hO.d6 h6).2
        obtain ⟨b, vs, ea, hbb, hvs, hB, _⟩ := hO.k12 h11
        refine wp_store_row _ (.tmp 10) (.tmp 36) rfl b (sc s' B' q') ea (by have h1 := ex; rw [ev] at h1; simpa [Act.eval] using h1) _ _ hB info_r hvs (ints_one _ _ _ _ _ _) ?_
        exact hK undef _ ⟨u, v, hO.st14 (by omega) h6 h11 ea hbb hB rfl ev⟩ trivial (fun j u _ _ hu => FreeD.wl_any hu)
      · intro listed A0 W hA hno hr K' hK
        have hsl := hA.size
        simp at hsl
        have hts : A0.tmps.size = 80 := hA.slots.trans rfl
        have ez : A0.tmps[37]?.getD undef = .bool true := FreeD.slot_is (hA.val 10 _ rfl (hr ⟨10, .data⟩ (by simp) rfl))
        simp [go_sem, ez]
        exact hK _ _ (hA.c.step 15 11 _ (by decide) (by decide) (Below.refl _ _)) rfl (fun j u _ _ hu => FreeD.wl_any hu)
    · intro A0 W hA
      have s11 : A0.tmps.getD 11 undef = .bool true := hA.val 15 _ rfl rfl
      have hde := hA.defers
      obtain ⟨y, hy, ee⟩ := frD rfl hA.slots (fun d hd => hA.kept d (kept_of (dsts := [28, 29, 30, 31, 32, 33, 34, 27, 35, 36, 37, 9, 10, 11]) (by kernel_rfl) hd))
      obtain ⟨u, v, hO⟩ := hA.c
      obtain ⟨s', A', p', B', q', eu, ev, hR', hA', hB', hnb⟩ := (hO.d6 rfl).2
      obtain ⟨bu, vs, s9, hbu, _, Ku, eu2⟩ := hO.k11 rfl
      obtain ⟨bv, vs', s10, hbv, _, Kv, ev2⟩ := hO.k12 rfl
      obtain rfl : vs = sc s' A' p' := by have h1 := eu2 rfl; rw [eu] at h1; injection h1 with h1; exact h1.symm
      obtain rfl : vs' = sc s' B' q' := by have h1 := ev2 rfl; rw [ev] at h1; injection h1 with h1; exact h1.symm
      have n5A := hnb n5 (.inl (.inl rfl))
      have n6A := hnb n6 (.inl (.inr rfl))
      have HNB := Lib.hid (And.intro n5A n6A)
      have H4 := Lib.hid hO.b
      have HR := Lib.hid hR'
      have KU := Lib.hid Ku
      have KV := Lib.hid Kv
      have VA := Lib.hid hA'
      have VB := Lib.hid hB'
      clear hA hO hnb eu ev eu2 ev2 hbu hbv n5A n6A hR' Ku Kv hA' hB'
      obtain ⟨tm, de⟩ := A0
      simp only at s9 s10 s11 ee hde hy
      have t9 := (hy 9).symm.trans s9
      have t10 := (hy 10).symm.trans s10
      have t11 := (hy 11).symm.trans s11
      rw [t9, t10, t11] at ee
      clear hy s9 s10 s11 t9 t10 t11
      subst ee hde
      have hlen : s'.t.length ≤ 16 := right_len HR.out
      have K0 : Hid (∀ X, Below W.heap.size W X → Calls Try.prog 11 #[.agg #[.slice A' s'.t.length p', .int .i64 s'.v, .int .i64 s'.c, .int .i64 s'.n]] X fun e w' => e = .returned (.bool true) ∧ Below X.heap.size X w') := Lib.hid (fun X hX => by have h := pright_any s' A' p' X (VA.out.later hX) (by omega); rw [decide_eq_true HR.out] at h; exact h)
      have K1 : Hid (∀ X, Below W.heap.size W X → Calls Try.prog 12 #[.agg #[.slice A' s'.t.length p', .int .i64 s'.v, .int .i64 s'.c, .int .i64 s'.n], .int .i64 kk] X fun e w' => e = .returned (.int .i64 (need s' kk)) ∧ Below X.heap.size X w') := Lib.hid (fun X hX => pneed_any s' A' p' kk X HR.out)
      have K2 : Hid (∀ X, Below W.heap.size W X → Calls Try.prog 13 #[.agg #[.slice B' s'.t.length q', .int .i64 s'.v, .int .i64 s'.c, .int .i64 s'.n], .int .i64 kk] X fun e w' => e = .returned (.int .i64 (need s' kk)) ∧ Below X.heap.size X w') := Lib.hid (fun X hX => rneed_any s' B' q' kk X HR.out)
      have K3 : Hid (∀ X, Below W.heap.size W X → Calls Try.prog 14 #[.agg #[.slice A' s'.t.length p', .int .i64 s'.v, .int .i64 s'.c, .int .i64 s'.n], .int .i64 kk] X fun e w' => e = .returned (.int .i64 (left s' kk)) ∧ Below X.heap.size X w') := Lib.hid (fun X hX => pleft_any s' A' p' kk X HR.out HK.out)
      have K4 : Hid (∀ X, Below W.heap.size W X → Calls Try.prog 15 #[.agg #[.slice B' s'.t.length q', .int .i64 s'.v, .int .i64 s'.c, .int .i64 s'.n], .int .i64 kk] X fun e w' => e = .returned (.int .i64 (left s' kk)) ∧ Below X.heap.size X w') := Lib.hid (fun X hX => rleft_any s' B' q' kk X HR.out HK.out)
      have K5 : Hid (∀ X, Below W.heap.size W X → Calls Try.prog 16 #[.agg #[.slice A' s'.t.length p', .int .i64 s'.v, .int .i64 s'.c, .int .i64 s'.n], .bool true] X fun e w' => e = .returned (.int .i64 (next s' true)) ∧ Below X.heap.size X w') := Lib.hid (fun X hX => pnext_any s' A' p' true X HR.out)
      have K6 : Hid (∀ X, Below W.heap.size W X → Calls Try.prog 17 #[.agg #[.slice B' s'.t.length q', .int .i64 s'.v, .int .i64 s'.c, .int .i64 s'.n], .bool true] X fun e w' => e = .returned (.int .i64 (next s' true)) ∧ Below X.heap.size X w') := Lib.hid (fun X hX => rnext_any s' B' q' true X)
      have K7 : Hid (∀ X, Below W.heap.size W X → Calls Try.prog 16 #[.agg #[.slice A' s'.t.length p', .int .i64 s'.v, .int .i64 s'.c, .int .i64 s'.n], .bool false] X fun e w' => e = .returned (.int .i64 (next s' false)) ∧ Below X.heap.size X w') := Lib.hid (fun X hX => pnext_any s' A' p' false X HR.out)
      have K8 : Hid (∀ X, Below W.heap.size W X → Calls Try.prog 17 #[.agg #[.slice B' s'.t.length q', .int .i64 s'.v, .int .i64 s'.c, .int .i64 s'.n], .bool false] X fun e w' => e = .returned (.int .i64 (next s' false)) ∧ Below X.heap.size X w') := Lib.hid (fun X hX => rnext_any s' B' q' false X)
      clear hlen
      generalize need s' kk = n1 at *
      generalize left s' kk = n2 at *
      generalize next s' true = n3 at *
      generalize next s' false = n4 at *
      have e1 : (n1 != n1) = false := by simp
      have e2 : (n2 != n2) = false := by simp
      have e3 : (n3 != n3) = false := by simp
      have e4 : (n4 != n4) = false := by simp
      have x0 : ∀ jj : In (fun X => Below W.heap.size W X), jj.W.cell? ⟨bu, 0, none⟩ = some (.slice A' s'.t.length p') := fun jj => (KU.out.later jj.h).cell 0
      have x1 : ∀ jj : In (fun X => Below W.heap.size W X), jj.W.cell? ⟨bu, 1, none⟩ = some (.int .i64 s'.v) := fun jj => (KU.out.later jj.h).cell 1
      have x2 : ∀ jj : In (fun X => Below W.heap.size W X), jj.W.cell? ⟨bu, 2, none⟩ = some (.int .i64 s'.c) := fun jj => (KU.out.later jj.h).cell 2
      have x3 : ∀ jj : In (fun X => Below W.heap.size W X), jj.W.cell? ⟨bu, 3, none⟩ = some (.int .i64 s'.n) := fun jj => (KU.out.later jj.h).cell 3
      have y0 : ∀ jj : In (fun X => Below W.heap.size W X), jj.W.cell? ⟨bv, 0, none⟩ = some (.slice B' s'.t.length q') := fun jj => (KV.out.later jj.h).cell 0
      have y1 : ∀ jj : In (fun X => Below W.heap.size W X), jj.W.cell? ⟨bv, 1, none⟩ = some (.int .i64 s'.v) := fun jj => (KV.out.later jj.h).cell 1
      have y2 : ∀ jj : In (fun X => Below W.heap.size W X), jj.W.cell? ⟨bv, 2, none⟩ = some (.int .i64 s'.c) := fun jj => (KV.out.later jj.h).cell 2
      have y3 : ∀ jj : In (fun X => Below W.heap.size W X), jj.W.cell? ⟨bv, 3, none⟩ = some (.int .i64 s'.n) := fun jj => (KV.out.later jj.h).cell 3
      go_upto_region 6 with fail
      have I : Below W.heap.size W { W with drawn := W.drawn + 1 } := (Below.refl _ _).drew
      have hne : Nonempty (In (fun X => Below W.heap.size W X)) := ⟨⟨_, I⟩⟩
      refine region_class (fun X => Below W.heap.size W X) (by kernel_rfl) (by kernel_rfl) I ?_
      repeat (go_big_quiet_step (first
        | (go_at_call 11; with_reducible exact class_call _ (fun hi => (K0.out _ hi).mono fun _ _ ⟨he, hb⟩ => ⟨he, hi.trans (hb.mono hi.size)⟩))
        | (go_at_call 12; with_reducible exact class_call _ (fun hi => (K1.out _ hi).mono fun _ _ ⟨he, hb⟩ => ⟨he, hi.trans (hb.mono hi.size)⟩))
        | (go_at_call 13; with_reducible exact class_call _ (fun hi => (K2.out _ hi).mono fun _ _ ⟨he, hb⟩ => ⟨he, hi.trans (hb.mono hi.size)⟩))
        | (go_at_call 14; with_reducible exact class_call _ (fun hi => (K3.out _ hi).mono fun _ _ ⟨he, hb⟩ => ⟨he, hi.trans (hb.mono hi.size)⟩))
        | (go_at_call 15; with_reducible exact class_call _ (fun hi => (K4.out _ hi).mono fun _ _ ⟨he, hb⟩ => ⟨he, hi.trans (hb.mono hi.size)⟩))
        | (go_at_call 16; with_reducible exact class_call _ (fun hi => (K5.out _ hi).mono fun _ _ ⟨he, hb⟩ => ⟨he, hi.trans (hb.mono hi.size)⟩))
        | (go_at_call 17; with_reducible exact class_call _ (fun hi => (K6.out _ hi).mono fun _ _ ⟨he, hb⟩ => ⟨he, hi.trans (hb.mono hi.size)⟩))
        | (go_at_call 16; with_reducible exact class_call _ (fun hi => (K7.out _ hi).mono fun _ _ ⟨he, hb⟩ => ⟨he, hi.trans (hb.mono hi.size)⟩))
        | (go_at_call 17; with_reducible exact class_call _ (fun hi => (K8.out _ hi).mono fun _ _ ⟨he, hb⟩ => ⟨he, hi.trans (hb.mono hi.size)⟩))))
      refine wpQuiet_nil ?_
      rintro _ ⟨jj, rfl⟩
      have H9 := Lib.hid jj.h
      clear I hne x0 x1 x2 x3 y0 y1 y2 y3 e1 e2 e3 e4 K0 K1 K2 K3 K4 K5 K6 K7 K8
      generalize jj.W = X at *
      clear jj
      have HX := Lib.hid (H4.out.trans (H9.out.mono H4.out.size))
      have k5 := HI.out.k5.later HX.out
      have k6 := HI.out.k6.later HX.out
      have ku := KU.out.later H9.out
      have kv := KV.out.later H9.out
      have hne56 : n5 ≠ n6 := Od.blk_ne k5 k6 (by decide)
      have hne5v : n5 ≠ bv := Od.blk_ne k5 kv (by decide)
      have k6' := k6.far hne56 (sc s' A' p')
      have kv' := kv.far hne5v (sc s' A' p')
      go_wp2_with (first
        | (with_reducible refine load_p rfl (.tmp 9) rfl bu rfl ku ?_)
        | (with_reducible refine store_p rfl (.tmp 5) (.tmp 77) rfl n5 rfl rfl k5 ?_)
        | (with_reducible refine load_r rfl (.tmp 10) rfl bv rfl kv' ?_)
        | (with_reducible refine store_r rfl (.tmp 6) (.tmp 78) rfl n6 rfl rfl k6' ?_))
      go_roundg (N - (i + 1))
      case measure => have := HG.out; omega
      case rel =>
        have hX := HI.out.b.trans (HX.out.mono HI.out.b.size)
        refine ⟨i + 1, s', A', p', B', q', by omega, by have := HG.out; omega, by go_num, Lib.hid ⟨below_row (below_row hX HI.out.a5 _) HI.out.a6 _, HR.out, HI.out.a5, HI.out.a6, (k5.row _).far hne56.symm _, k6'.row _, ?_, ?_, ⟨HNB.out.1.1, HNB.out.2.1⟩, ⟨HNB.out.1.2, HNB.out.2.2⟩⟩⟩
        · exact Od.Nb.row (Od.Nb.row (VA.out.later H9.out) HNB.out.1.1 _) HNB.out.2.1 _
        · exact Od.Nb.row (Od.Nb.row (VB.out.later H9.out) HNB.out.1.2 _) HNB.out.2.2 _

set_option maxRecDepth 100000 in
theorem lifted (os : Os) (started : os.Started) (H : Type) (enc : TypeId × Value → H) :
    ReturnsInHanded {} Try.checked os 3 .any (Rows.sweepDoesSpec.pre6 enc Try.prog Try.f3 Rows.sweepDoesRow.domain false) (Rows.sweepDoesSpec.post enc Try.prog Try.f3 false true false false) := by
  refine returnsInHanded_of_change (C := Try.checked) own started (by kernel_rfl) Try.func3
    (ChangeSpec.witness6 (enc := enc) (C := Try.checked) false ⟨#[], #[.slice none 0 0, .int .u8 0], []⟩ 8 (by kernel_rfl) (by kernel_rfl) (by kernel_rfl) (by kernel_rfl)) ?_
  intro W base args ds gs before hval0 hW hcnd _
  have hval : ∀ (j : Nat) t v, Try.f3.params[j]? = some t → args[j]? = some v → Value.okWide Try.prog W .any base t v := hval0
  have hW' := hW
  obtain ⟨p, q, hA0, hV, rfl, hfz, hnd⟩ := hW
  have hA : DataW.TrodAll enc Try.prog W 0 (fun _ => true) true Try.f3.params.toList args.toList ds p := hA0
  rw [Try.params3] at hA hval
  obtain ⟨v0, vs0, d0, ds0, p0, q0, hargs, rfl, rfl, h0, r0⟩ := trodAll_cons hA
  obtain ⟨v1, vs1, d1, ds1, p1, q1, rfl, rfl, rfl, h1, r1⟩ := trodAll_cons r0
  obtain ⟨rfl, rfl, rfl⟩ := trodAll_nil r1
  obtain rfl : args = #[v0, v1] := by cases args; simp_all
  obtain ⟨rfl, rfl⟩ := trodVars_none hV
  obtain ⟨Ad0, n0, c0, L0, rfl, hn0, g0⟩ := open_cls (hval 0 22 v0 rfl rfl) h0
  obtain ⟨a1, rfl, rfl, rfl, w1⟩ := open_int Try.underlying5 (hval 1 5 v1 rfl rfl) h1
  clear hA0 hval0
  try simp only [List.append_nil] at hW'
  try simp only [List.nil_append] at hW'
  have hlt := fun x hx => hW'.lt x hx
  refine (walk Ad0 n0 c0 L0 a1 W g0 hn0 (by simp [Lit.wf] at w1; exact w1)).mono fun e W' ⟨he, hg⟩ => ?_
  subst he
  refine ⟨_, rfl, post_mem hW' (fun _ _ _ => (trodAll_cons_mk (shut_bool Try.underlying4 _) trodAll_mk0)) (fun sp hsp => ?_) (fun _ => rfl) hg (ok_one (by kernel_rfl) rfl (okWide_bool_mk Try.underlying4 _))⟩
  have hall := (trodAll_cons_mk (arg_same (sp := sp) laid (by kernel_rfl) (of_decide_eq_true (by kernel_rfl)) h0 hg (by intro x hx; simp_all) hlt hsp) (trodAll_cons_mk (arg_same (sp := sp) laid (by kernel_rfl) (of_decide_eq_true (by kernel_rfl)) h1 hg (by intro x hx; simp_all) hlt hsp) trodAll_mk0))
  try simp only [List.append_nil] at hall
  try simp only [List.nil_append] at hall
  exact hall

theorem over : Rows.sweepDoesRow.holds Try.pinned (OpenSpec.ofChange Rows.sweepDoesSpec) :=
  OpenClaim.holds_of_wide 3 Try.f3 rfl rfl rfl rfl rfl rfl rfl ⟨rfl, rfl, rfl, rfl, rfl⟩ rfl rfl rfl rfl rfl (by kernel_rfl) Try.func3 (by kernel_rfl)
    (of_decide_eq_true (by kernel_rfl)) (by unfold Func.isWrapper; first | (rw [if_pos (by decide +kernel)]; kernel_rfl) | (rw [if_neg (by decide +kernel)]; exact ⟨rfl, rfl⟩))
    (fun os started H enc _ => lifted os started H enc)

theorem proved : Rows.SweepDoesSaid := over
#print axioms proved
end Go.Proofs.Ytfhdckmpodmejaa.sweepDoes
