/- For all inputs the statement SweepOwn about sweep returns true, and changes nothing. Conditions: none. -/
import Derived.Test.YtfhdckmpodmejaaSwI
import Derived.Test.YtfhdckmpodmejaaSwK
import Derived.Test.YtfhdckmpodmejaaClass
import Derived.Deep.RegionHeld3
import Derived.Test.YtfhdckmpodmejaaNewC
import Derived.Test.YtfhdckmpodmejaaFreeD
import Derived.ProofKit
import Derived.OpenShut
import Derived.ShutString
import Derived.SizedLaws
namespace Go.Proofs.Ytfhdckmpodmejaa.sweepOwn
open Go.ChangeShapes Go.WideShapes Go.ChangeAt Go.RowKit Go.Lib Go.MapKept
open Go.ChangeMaps (open_string shut_string)
set_option linter.unusedVariables false
set_option linter.unusedSimpArgs false

theorem own : ownKnob Try.prog.godebug = none := by kernel_rfl
theorem laid : laidOutB Try.prog = true := by kernel_rfl

set_option maxRecDepth 100000
open Sw Rw Sp
theorem arrF92 {cs : Array Value} (h : cs.size = 92) : ∃ y : Nat → Value, (∀ i, cs.getD i undef = y i) ∧ cs = #[y 0, y 1, y 2, y 3, y 4, y 5, y 6, y 7, y 8, y 9, y 10, y 11, y 12, y 13, y 14, y 15, y 16, y 17, y 18, y 19, y 20, y 21, y 22, y 23, y 24, y 25, y 26, y 27, y 28, y 29, y 30, y 31, y 32, y 33, y 34, y 35, y 36, y 37, y 38, y 39, y 40, y 41, y 42, y 43, y 44, y 45, y 46, y 47, y 48, y 49, y 50, y 51, y 52, y 53, y 54, y 55, y 56, y 57, y 58, y 59, y 60, y 61, y 62, y 63, y 64, y 65, y 66, y 67, y 68, y 69, y 70, y 71, y 72, y 73, y 74, y 75, y 76, y 77, y 78, y 79, y 80, y 81, y 82, y 83, y 84, y 85, y 86, y 87, y 88, y 89, y 90, y 91] := by
  refine ⟨fun i => cs.getD i undef, fun _ => rfl, ?_⟩
  have e : cs = ((List.range 92).map fun i => cs.getD i undef).toArray := by
    apply Array.ext
    · simp [h]
    · intro i h1 h2
      simp [h1]
  exact e.trans rfl
theorem kept_of {ops : Array Oper} {dsts : List Nat} {listed : Array Bool} (h : ops.all (fun o => match o.dst with | none => true | some d => dsts.contains d) = true) {d : Nat} (hd : dsts.contains d = false) : ∀ i o, ops[i]? = some o → listed.getD i false = true → o.dst ≠ some d := by
  intro i o hi _ e
  rw [Array.all_eq_true_iff_forall_mem] at h
  have := h o (Array.mem_of_getElem? hi)
  rw [e] at this
  simp only at this
  rw [hd] at this
  cases this
set_option maxRecDepth 100000 in
theorem frW {z0 z1 z2 z3 z4 z5 z6 z7 z8 z9 z10 z11 z12 z13 z14 z15 z16 z17 z18 z19 z20 z21 z22 z23 z24 z25 z26 z27 z28 z29 z30 z31 z32 z33 z34 z35 z36 z37 z38 z39 z40 z41 z42 z43 z44 z45 z46 z47 z48 z49 z50 z51 z52 z53 z54 z55 z56 z57 z58 z59 z60 z61 z62 z63 z64 z65 z66 z67 z68 z69 z70 z71 z72 z73 z74 z75 z76 z77 z78 z79 z80 z81 z82 z83 z84 z85 z86 z87 z88 z89 z90 z91 : Value} {ts us : Array Value} (hz : ts = #[z0, z1, z2, z3, z4, z5, z6, z7, z8, z9, z10, z11, z12, z13, z14, z15, z16, z17, z18, z19, z20, z21, z22, z23, z24, z25, z26, z27, z28, z29, z30, z31, z32, z33, z34, z35, z36, z37, z38, z39, z40, z41, z42, z43, z44, z45, z46, z47, z48, z49, z50, z51, z52, z53, z54, z55, z56, z57, z58, z59, z60, z61, z62, z63, z64, z65, z66, z67, z68, z69, z70, z71, z72, z73, z74, z75, z76, z77, z78, z79, z80, z81, z82, z83, z84, z85, z86, z87, z88, z89, z90, z91]) (hs : us.size = ts.size) (hk : ∀ d, [53, 54, 55, 56, 52, 57, 58, 14, 15].contains d = false → us.getD d undef = ts.getD d undef) :
    ∃ y : Nat → Value, (∀ i, us.getD i undef = y i) ∧ us = #[z0, z1, z2, z3, z4, z5, z6, z7, z8, z9, z10, z11, z12, z13, y 14, y 15, z16, z17, z18, z19, z20, z21, z22, z23, z24, z25, z26, z27, z28, z29, z30, z31, z32, z33, z34, z35, z36, z37, z38, z39, z40, z41, z42, z43, z44, z45, z46, z47, z48, z49, z50, z51, y 52, y 53, y 54, y 55, y 56, y 57, y 58, z59, z60, z61, z62, z63, z64, z65, z66, z67, z68, z69, z70, z71, z72, z73, z74, z75, z76, z77, z78, z79, z80, z81, z82, z83, z84, z85, z86, z87, z88, z89, z90, z91] := by
  obtain ⟨y, hy, e⟩ := arrF92 (cs := us) (by rw [hs, hz]; rfl)
  subst hz
  refine ⟨y, hy, e.trans ?_⟩
  have e0 : y 0 = z0 := (hy 0).symm.trans (hk 0 rfl)
  have e1 : y 1 = z1 := (hy 1).symm.trans (hk 1 rfl)
  have e2 : y 2 = z2 := (hy 2).symm.trans (hk 2 rfl)
  have e3 : y 3 = z3 := (hy 3).symm.trans (hk 3 rfl)
  have e4 : y 4 = z4 := (hy 4).symm.trans (hk 4 rfl)
  have e5 : y 5 = z5 := (hy 5).symm.trans (hk 5 rfl)
  have e6 : y 6 = z6 := (hy 6).symm.trans (hk 6 rfl)
  have e7 : y 7 = z7 := (hy 7).symm.trans (hk 7 rfl)
  have e8 : y 8 = z8 := (hy 8).symm.trans (hk 8 rfl)
  have e9 : y 9 = z9 := (hy 9).symm.trans (hk 9 rfl)
  have e10 : y 10 = z10 := (hy 10).symm.trans (hk 10 rfl)
  have e11 : y 11 = z11 := (hy 11).symm.trans (hk 11 rfl)
  have e12 : y 12 = z12 := (hy 12).symm.trans (hk 12 rfl)
  have e13 : y 13 = z13 := (hy 13).symm.trans (hk 13 rfl)
  have e16 : y 16 = z16 := (hy 16).symm.trans (hk 16 rfl)
  have e17 : y 17 = z17 := (hy 17).symm.trans (hk 17 rfl)
  have e18 : y 18 = z18 := (hy 18).symm.trans (hk 18 rfl)
  have e19 : y 19 = z19 := (hy 19).symm.trans (hk 19 rfl)
  have e20 : y 20 = z20 := (hy 20).symm.trans (hk 20 rfl)
  have e21 : y 21 = z21 := (hy 21).symm.trans (hk 21 rfl)
  have e22 : y 22 = z22 := (hy 22).symm.trans (hk 22 rfl)
  have e23 : y 23 = z23 := (hy 23).symm.trans (hk 23 rfl)
  have e24 : y 24 = z24 := (hy 24).symm.trans (hk 24 rfl)
  have e25 : y 25 = z25 := (hy 25).symm.trans (hk 25 rfl)
  have e26 : y 26 = z26 := (hy 26).symm.trans (hk 26 rfl)
  have e27 : y 27 = z27 := (hy 27).symm.trans (hk 27 rfl)
  have e28 : y 28 = z28 := (hy 28).symm.trans (hk 28 rfl)
  have e29 : y 29 = z29 := (hy 29).symm.trans (hk 29 rfl)
  have e30 : y 30 = z30 := (hy 30).symm.trans (hk 30 rfl)
  have e31 : y 31 = z31 := (hy 31).symm.trans (hk 31 rfl)
  have e32 : y 32 = z32 := (hy 32).symm.trans (hk 32 rfl)
  have e33 : y 33 = z33 := (hy 33).symm.trans (hk 33 rfl)
  have e34 : y 34 = z34 := (hy 34).symm.trans (hk 34 rfl)
  have e35 : y 35 = z35 := (hy 35).symm.trans (hk 35 rfl)
  have e36 : y 36 = z36 := (hy 36).symm.trans (hk 36 rfl)
  have e37 : y 37 = z37 := (hy 37).symm.trans (hk 37 rfl)
  have e38 : y 38 = z38 := (hy 38).symm.trans (hk 38 rfl)
  have e39 : y 39 = z39 := (hy 39).symm.trans (hk 39 rfl)
  have e40 : y 40 = z40 := (hy 40).symm.trans (hk 40 rfl)
  have e41 : y 41 = z41 := (hy 41).symm.trans (hk 41 rfl)
  have e42 : y 42 = z42 := (hy 42).symm.trans (hk 42 rfl)
  have e43 : y 43 = z43 := (hy 43).symm.trans (hk 43 rfl)
  have e44 : y 44 = z44 := (hy 44).symm.trans (hk 44 rfl)
  have e45 : y 45 = z45 := (hy 45).symm.trans (hk 45 rfl)
  have e46 : y 46 = z46 := (hy 46).symm.trans (hk 46 rfl)
  have e47 : y 47 = z47 := (hy 47).symm.trans (hk 47 rfl)
  have e48 : y 48 = z48 := (hy 48).symm.trans (hk 48 rfl)
  have e49 : y 49 = z49 := (hy 49).symm.trans (hk 49 rfl)
  have e50 : y 50 = z50 := (hy 50).symm.trans (hk 50 rfl)
  have e51 : y 51 = z51 := (hy 51).symm.trans (hk 51 rfl)
  have e59 : y 59 = z59 := (hy 59).symm.trans (hk 59 rfl)
  have e60 : y 60 = z60 := (hy 60).symm.trans (hk 60 rfl)
  have e61 : y 61 = z61 := (hy 61).symm.trans (hk 61 rfl)
  have e62 : y 62 = z62 := (hy 62).symm.trans (hk 62 rfl)
  have e63 : y 63 = z63 := (hy 63).symm.trans (hk 63 rfl)
  have e64 : y 64 = z64 := (hy 64).symm.trans (hk 64 rfl)
  have e65 : y 65 = z65 := (hy 65).symm.trans (hk 65 rfl)
  have e66 : y 66 = z66 := (hy 66).symm.trans (hk 66 rfl)
  have e67 : y 67 = z67 := (hy 67).symm.trans (hk 67 rfl)
  have e68 : y 68 = z68 := (hy 68).symm.trans (hk 68 rfl)
  have e69 : y 69 = z69 := (hy 69).symm.trans (hk 69 rfl)
  have e70 : y 70 = z70 := (hy 70).symm.trans (hk 70 rfl)
  have e71 : y 71 = z71 := (hy 71).symm.trans (hk 71 rfl)
  have e72 : y 72 = z72 := (hy 72).symm.trans (hk 72 rfl)
  have e73 : y 73 = z73 := (hy 73).symm.trans (hk 73 rfl)
  have e74 : y 74 = z74 := (hy 74).symm.trans (hk 74 rfl)
  have e75 : y 75 = z75 := (hy 75).symm.trans (hk 75 rfl)
  have e76 : y 76 = z76 := (hy 76).symm.trans (hk 76 rfl)
  have e77 : y 77 = z77 := (hy 77).symm.trans (hk 77 rfl)
  have e78 : y 78 = z78 := (hy 78).symm.trans (hk 78 rfl)
  have e79 : y 79 = z79 := (hy 79).symm.trans (hk 79 rfl)
  have e80 : y 80 = z80 := (hy 80).symm.trans (hk 80 rfl)
  have e81 : y 81 = z81 := (hy 81).symm.trans (hk 81 rfl)
  have e82 : y 82 = z82 := (hy 82).symm.trans (hk 82 rfl)
  have e83 : y 83 = z83 := (hy 83).symm.trans (hk 83 rfl)
  have e84 : y 84 = z84 := (hy 84).symm.trans (hk 84 rfl)
  have e85 : y 85 = z85 := (hy 85).symm.trans (hk 85 rfl)
  have e86 : y 86 = z86 := (hy 86).symm.trans (hk 86 rfl)
  have e87 : y 87 = z87 := (hy 87).symm.trans (hk 87 rfl)
  have e88 : y 88 = z88 := (hy 88).symm.trans (hk 88 rfl)
  have e89 : y 89 = z89 := (hy 89).symm.trans (hk 89 rfl)
  have e90 : y 90 = z90 := (hy 90).symm.trans (hk 90 rfl)
  have e91 : y 91 = z91 := (hy 91).symm.trans (hk 91 rfl)
  simp only [e0, e1, e2, e3, e4, e5, e6, e7, e8, e9, e10, e11, e12, e13, e16, e17, e18, e19, e20, e21, e22, e23, e24, e25, e26, e27, e28, e29, e30, e31, e32, e33, e34, e35, e36, e37, e38, e39, e40, e41, e42, e43, e44, e45, e46, e47, e48, e49, e50, e51, e59, e60, e61, e62, e63, e64, e65, e66, e67, e68, e69, e70, e71, e72, e73, e74, e75, e76, e77, e78, e79, e80, e81, e82, e83, e84, e85, e86, e87, e88, e89, e90, e91]
theorem cut_st {s0 s : St} {A : Option Addr} {p : Nat} {w : World} (hs : (⟨s0.t.take 20, s0.v, s0.c, s0.n⟩ : St) = s) (hA : VR w A s0.t.length (iv s0.t)) (hp : s0.t.length ≤ p) : VR w A s.t.length (iv s.t) ∧ s.t.length ≤ 20 ∧ s.t.length ≤ p := by
  subst hs
  refine ⟨?_, by simp only [List.length_take]; omega, by simp only [List.length_take]; omega⟩
  have h := hA.cut (min 20 s0.t.length) (by omega)
  rw [iv_take] at h
  have e : s0.t.take (min 20 s0.t.length) = s0.t.take 20 := by
    apply List.ext_getElem?
    intro i
    rw [List.getElem?_take, List.getElem?_take]
    by_cases h1 : i < 20
    · by_cases h2 : i < s0.t.length
      · rw [if_pos (by omega), if_pos h1]
      · rw [if_neg (by omega), if_pos h1, List.getElem?_eq_none (by omega)]
    · rw [if_neg (by omega), if_neg h1]
  rw [e] at h
  simpa using h
/-- A list of one's own, whose elements can be written. -/
def Wr (B lb : Nat) (q : Option Addr × Nat × Nat) (X : World) : Prop := 0 < q.2.1 → ∃ g, q.1 = some ⟨g, 0, none⟩ ∧ B ≤ g ∧ g < lb ∧ ∀ k, k < q.2.1 → (∃ v, X.cell? ⟨g, k, none⟩ = some v) ∧ X.frozen? ⟨g, k, none⟩ = false
theorem Wr.of_sep {w w' : World} {A : Option Addr} {p B lb : Nat} {l : List Int} (h : Sp.Sep w w' [row A p l]) (hB : B ≤ w.heap.size) (hlb : w'.heap.size ≤ lb) : Wr B lb (A, l.length, p) w' := fun h0 => by
  obtain ⟨g, rfl, hc⟩ := rows_cell h (k := 0) rfl h0
  obtain ⟨cur, hb⟩ := rows_blk h (k := 0) rfl
  have hf := row_fresh h (k := 0) rfl _ rfl
  have hlt := hb.lt
  refine ⟨g, rfl, Nat.le_trans hB hf, by omega, fun k hk => ⟨?_, hb.frozen k⟩⟩
  rw [hc k (by simp only at hk; omega)]
  exact ⟨_, List.getElem?_eq_getElem (by rw [iv_len]; exact hk)⟩
theorem Wr.later {B lb : Nat} {q : Option Addr × Nat × Nat} {X Y : World} (h : Wr B lb q X) (hb : Below X.heap.size X Y) : Wr B lb q Y := fun h0 => by
  obtain ⟨g, e, h1, h2, h3⟩ := h h0
  refine ⟨g, e, h1, h2, fun k hk => ?_⟩
  obtain ⟨⟨v, hv⟩, hf⟩ := h3 k hk
  have hlt := World.block_lt_of_cell? _ _ hv
  exact ⟨⟨v, (hb.cell hlt).trans hv⟩, (hb.frozen hlt).trans hf⟩
theorem Wr.up {B lb lb' : Nat} {q : Option Addr × Nat × Nat} {X : World} (h : Wr B lb q X) (hl : lb ≤ lb') : Wr B lb' q X := fun h0 => by
  obtain ⟨g, e, h1, h2, h3⟩ := h h0
  exact ⟨g, e, h1, by omega, h3⟩
theorem Wr.set {B lb : Nat} {q : Option Addr × Nat × Nat} {X : World} (h : Wr B lb q X) (a : Addr) (u : Value) : Wr B lb q (X.setCell a u) := fun h0 => by
  obtain ⟨g, e, h1, h2, h3⟩ := h h0
  refine ⟨g, e, h1, h2, fun k hk => ?_⟩
  obtain ⟨⟨v, hv⟩, hf⟩ := h3 k hk
  refine ⟨?_, by rw [World.frozen?_setCell]; exact hf⟩
  by_cases ha : a = ⟨g, k, none⟩
  · subst ha
    exact ⟨u, World.cell?_setCell_same _ _ _ hv⟩
  · exact ⟨v, (World.cell?_setCell_other X a ⟨g, k, none⟩ u ha).trans hv⟩
theorem Wr.ne {B lb : Nat} {q : Option Addr × Nat × Nat} {X : World} (h : Wr B lb q X) {b : Nat} (hb : b < B ∨ lb ≤ b) (cs : Array Value) : Wr B lb q (X.setRow b cs) := fun h0 => by
  obtain ⟨g, e, h1, h2, h3⟩ := h h0
  refine ⟨g, e, h1, h2, fun k hk => ?_⟩
  have hg : g ≠ b := by omega
  have hr := setRow_other X b g cs hg
  have hc : ∀ i, (X.setRow b cs).cell? ⟨g, i, none⟩ = X.cell? ⟨g, i, none⟩ := fun i => by unfold World.cell?; simp only; rw [hr]
  have hf : ∀ i, (X.setRow b cs).frozen? ⟨g, i, none⟩ = X.frozen? ⟨g, i, none⟩ := fun i => by unfold World.frozen?; simp only; rw [hr]
  rw [hc, hf]
  exact h3 k hk
theorem Wr.down {B B' lb : Nat} {q : Option Addr × Nat × Nat} {X : World} (h : Wr B lb q X) (hB : B' ≤ B) : Wr B' lb q X := fun h0 => by
  obtain ⟨g, e, h1, h2, h3⟩ := h h0
  exact ⟨g, e, by omega, h2, h3⟩
/-- What a call tells: a state, its list of the call's own, in no block of S. -/
def RO (O : Option St) (B : Nat) (S : Nat → Prop) (u : Value) (W : World) : Prop := ∃ (A : Option Addr) (p : Nat), u = .agg (sc (st O) A p) ∧ (0 < (st O).t.length → ∃ g, A = some ⟨g, 0, none⟩ ∧ B ≤ g ∧ g < W.heap.size ∧ ¬ S g ∧ ∀ k, k < (st O).t.length → (∃ v, W.cell? ⟨g, k, none⟩ = some v) ∧ W.frozen? ⟨g, k, none⟩ = false)
theorem ro_tells (O : Option St) (B : Nat) : NewC.Tells (RO O B) := by
  refine ⟨?_, ?_, ?_⟩
  · rintro S u W W' ⟨A, p, e, h⟩ hb
    refine ⟨A, p, e, fun h0 => ?_⟩
    obtain ⟨g, e1, h1, h2, h3, h4⟩ := h h0
    exact ⟨g, e1, h1, Nat.lt_of_lt_of_le h2 hb.size, h3, fun k hk => ⟨by obtain ⟨v, hv⟩ := (h4 k hk).1; exact ⟨v, (hb.cell h2).trans hv⟩, (hb.frozen h2).trans (h4 k hk).2⟩⟩
  · rintro S S' u W ⟨A, p, e, h⟩ hs
    refine ⟨A, p, e, fun h0 => ?_⟩
    obtain ⟨g, e1, h1, h2, h3, h4⟩ := h h0
    refine ⟨g, e1, h1, h2, fun hg => ?_, h4⟩
    rcases hs g hg with hg | hg
    · exact h3 hg
    · omega
  · rintro S u W g cs ⟨A, p, e, h⟩ hg
    refine ⟨A, p, e, fun h0 => ?_⟩
    obtain ⟨g', e1, h1, h2, h3, h4⟩ := h h0
    have hne : g' ≠ g := fun e => h3 (e ▸ hg)
    have hr := setRow_other W g g' cs hne
    have hc : ∀ i, (W.setRow g cs).cell? ⟨g', i, none⟩ = W.cell? ⟨g', i, none⟩ := fun i => by unfold World.cell?; simp only; rw [hr]
    have hf : ∀ i, (W.setRow g cs).frozen? ⟨g', i, none⟩ = W.frozen? ⟨g', i, none⟩ := fun i => by unfold World.frozen?; simp only; rw [hr]
    refine ⟨g', e1, h1, by rw [row_size]; exact h2, h3, fun k hk => ?_⟩
    rw [hc, hf]
    exact h4 k hk
/-- The four lists. -/
def qs (a b c d : Option Addr × Nat × Nat) : Nat → Option Addr × Nat × Nat
  | 0 => a | 1 => b | 2 => c | _ => d
theorem len_le {s : St} {x n : Int} : (st (takes s x n)).t.length ≤ s.t.length ∧ (st (sees s)).t.length ≤ s.t.length ∧ (st (gives s)).t.length ≤ s.t.length ∧ (st (begins idle s.t)).t.length ≤ s.t.length := by
  refine ⟨?_, ?_, ?_, ?_⟩
  · unfold takes; split
    · exact Nat.zero_le _
    · exact less_len _ _
  · unfold sees; split
    · exact Nat.le_refl _
    · exact Nat.zero_le _
  · unfold gives; split
    · exact Nat.le_refl _
    · exact Nat.zero_le _
  · unfold begins; split
    · exact Nat.zero_le _
    · exact Nat.le_refl _
theorem blk_set {X : World} {g k lb : Nat} {T : TypeId} {cs : Array Value} (h : Sp.Blk X lb T cs) (hg : g ≠ lb) (u : Value) : Sp.Blk (X.setCell ⟨g, k, none⟩ u) lb T cs := (Below.heap_setCell X ⟨g, k, none⟩ u lb (fun e => hg e.symm)).trans h
structure Inv (W4 : World) (lb : Nat) (cs : Array Value) (Q : Nat → Option Addr × Nat × Nat) (X : World) : Prop where
  b : Below W4.heap.size W4 X
  k : Sp.Blk X lb 25 cs
  q : ∀ i, i < 4 → Wr W4.heap.size lb (Q i) X
theorem Inv.cell {W4 : World} {lb : Nat} {Q : Nat → Option Addr × Nat × Nat} {X : World} {a1 a2 a3 b1 b2 b3 c1 c2 c3 d1 d2 d3 : Value} (h : Inv W4 lb #[.slice (Q 0).1 (Q 0).2.1 (Q 0).2.2, a1, a2, a3, .slice (Q 1).1 (Q 1).2.1 (Q 1).2.2, b1, b2, b3, .slice (Q 2).1 (Q 2).2.1 (Q 2).2.2, c1, c2, c3, .slice (Q 3).1 (Q 3).2.1 (Q 3).2.2, d1, d2, d3] Q X) {i : Nat} (hi : i < 4) : X.cell? ⟨lb, i * 4, none⟩ = some (.slice (Q i).1 (Q i).2.1 (Q i).2.2) := by
  rw [h.k.cell]
  rcases (by omega : i = 0 ∨ i = 1 ∨ i = 2 ∨ i = 3) with rfl | rfl | rfl | rfl <;> rfl

set_option maxHeartbeats 8000000 in
theorem walk (s0 : St) (A : Option Addr) (p : Nat) (x n : Int) (w : World) (hA : VR w A s0.t.length (iv s0.t)) (hp : s0.t.length ≤ p) :
    Calls Try.prog 6 #[.agg (sc s0 A p), .int .i64 x, .int .i64 n] w fun e w' => e = .returned (.bool true) ∧ Below w.heap.size w w' := by
  obtain ⟨b0, hb0⟩ : ∃ b0, w.heap.size = b0 := ⟨_, rfl⟩
  obtain ⟨W, hW⟩ : ∃ W, w.alloc (.cells (sc s0 A p) 25) = W := ⟨_, rfl⟩
  have HB := Lib.hid (show Below w.heap.size w W by rw [← hW]; exact below1 _ _)
  have BS : Hid (Sp.Blk W b0 25 (sc s0 A p)) := Lib.hid (by rw [← hW, ← hb0]; exact Sp.Blk.new _ _ _)
  have CC := Lib.hid (fun X => cut_any s0 A p X hp)
  obtain ⟨s, hs⟩ : ∃ s : St, (⟨s0.t.take 20, s0.v, s0.c, s0.n⟩ : St) = s := ⟨_, rfl⟩
  have hV := cut_st hs hA hp
  rw [hs] at CC
  have HV := Lib.hid hV.1
  have HL := Lib.hid hV.2.1
  have HLP := Lib.hid hV.2.2
  have HZ := Lib.hid hb0
  have s0' := (st_cells BS.out).1
  have s1 := (st_cells BS.out).2.1
  have s2 := (st_cells BS.out).2.2.1
  have s3 := (st_cells BS.out).2.2.2
  clear hs hV hA hp
  go_enter Try.func6, Try.ntmps6
  go_upto_region 2 with (first
    | (go_at_call 19; refine (CC.out _).mono ?_; rintro e1 w1 ⟨rfl, hb1⟩; have H1 := Lib.hid hb1; have x1 := BS.out.later hb1; clear hb1)
    | (with_reducible refine store_p rfl (.tmp 3) (.tmp 20) rfl b0 rfl rfl x1 ?_))
  have HW := Lib.hid (below_row (HB.out.trans (H1.out.mono HB.out.size)) (show w.heap.size ≤ b0 by have := HZ.out; omega) (sc s A p))
  have X1 : Hid (Sp.Blk (w1.setRow b0 (sc s A p)) b0 25 (sc s A p)) := Lib.hid (x1.row _)
  change Code.wp _ _ _ _ (w1.setRow b0 (sc s A p))
  clear hW hb0 CC s0' s1 s2 s3 x1 H1 BS HB
  generalize w1.setRow b0 (sc s A p) = W1 at *
  clear w1
  have V1 := Lib.hid (HV.out.later HW.out)
  have Z1 : Hid (Below W1.heap.size W1 W1) := Lib.hid (Below.refl _ _)
  obtain ⟨R, hR⟩ : ∃ R, decide (Right s) = R := ⟨_, rfl⟩
  have HRD := Lib.hid hR
  have CP : Hid (∀ X, Below W1.heap.size W1 X → Calls Try.prog 11 #[.agg #[.slice A s.t.length p, .int .i64 s.v, .int .i64 s.c, .int .i64 s.n]] X fun e w' => e = .returned (.bool R) ∧ Below X.heap.size X w') := Lib.hid (fun X hX => by rw [← hR]; exact pright_any s A p X (V1.out.later hX) (by have := HL.out; omega))
  have CQ : Hid (∀ X, Below W1.heap.size W1 X → Calls Try.prog 20 #[.agg #[.slice A s.t.length p, .int .i64 s.v, .int .i64 s.c, .int .i64 s.n]] X fun e w' => e = .returned (.bool R) ∧ Below X.heap.size X w') := Lib.hid (fun X hX => by rw [← hR]; exact rright_any s A p X (V1.out.later hX) (by have := HL.out; omega) HLP.out)
  have CF : Hid (∀ X, Calls Try.prog 21 #[.agg #[.slice A s.t.length p, .int .i64 s.v, .int .i64 s.c, .int .i64 s.n]] X fun e w' => e = .returned (.agg #[.slice A s.t.length p, .int .i64 s.v, .int .i64 s.c, .int .i64 s.n]) ∧ Below X.heap.size X w') := Lib.hid (fun X => ref_any 0 s.t.length p A s.v s.c s.n X)
  clear hR
  have s0 : W1.cell? ⟨b0, 0, none⟩ = some (.slice A s.t.length p) := (X1.out.later Z1.out).cell 0; have s1 : W1.cell? ⟨b0, 1, none⟩ = some (.int .i64 s.v) := (X1.out.later Z1.out).cell 1; have s2 : W1.cell? ⟨b0, 2, none⟩ = some (.int .i64 s.c) := (X1.out.later Z1.out).cell 2; have s3 : W1.cell? ⟨b0, 3, none⟩ = some (.int .i64 s.n) := (X1.out.later Z1.out).cell 3
  cases R with
  | false =>
    go_wp2_with (first
      | (go_at_call 18; refine (fixed_any _).mono ?_; rintro e5 w5 ⟨rfl, hb5⟩; have H5 := Lib.hid (H4.out.trans (hb5.mono H4.out.size)); clear hb5)
      | (go_at_call 11; refine (CP.out _ H3.out).mono ?_; rintro e4 w4 ⟨rfl, hb4⟩; have H4 := Lib.hid (H3.out.trans (hb4.mono H3.out.size)); clear hb4)
      | (go_at_call 20; refine (CQ.out _ H2.out).mono ?_; rintro e3 w3 ⟨rfl, hb3⟩; have H3 := Lib.hid (H2.out.trans (hb3.mono H2.out.size)); clear hb3 s0 s1 s2 s3; have s0 : w3.cell? ⟨b0, 0, none⟩ = some (.slice A s.t.length p) := (X1.out.later H3.out).cell 0; have s1 : w3.cell? ⟨b0, 1, none⟩ = some (.int .i64 s.v) := (X1.out.later H3.out).cell 1; have s2 : w3.cell? ⟨b0, 2, none⟩ = some (.int .i64 s.c) := (X1.out.later H3.out).cell 2; have s3 : w3.cell? ⟨b0, 3, none⟩ = some (.int .i64 s.n) := (X1.out.later H3.out).cell 3)
      | (go_at_call 21; refine (CF.out _).mono ?_; rintro e2 w2 ⟨rfl, hb2⟩; have H2 := Lib.hid hb2; clear hb2))
    go_ret
    exact ⟨rfl, HW.out.trans (H5.out.mono HW.out.size)⟩
  | true =>
  have hr : Right s := of_decide_eq_true HRD.out
  have HR := Lib.hid hr
  clear hr
  go_upto_region 4 with (first
    | (go_at_call 20; refine (CQ.out _ H2.out).mono ?_; rintro e3 w3 ⟨rfl, hb3⟩; have H3 := Lib.hid (H2.out.trans (hb3.mono H2.out.size)); clear hb3)
    | (go_at_call 21; refine (CF.out _).mono ?_; rintro e2 w2 ⟨rfl, hb2⟩; have H2 := Lib.hid hb2; clear hb2))
  clear CP CQ CF HRD s0 s1 s2 s3
  have hn : s.t.length < 1000 := by have := right_len HR.out; omega
  have HN := Lib.hid hn
  obtain ⟨Aw, pw, W4, hrun, S4⟩ := run_app_new (c := p) (V1.out.later H3.out) hn
  have Q4 := Lib.hid S4
  clear S4 hn
  have HZ3 := Lib.hid (H3.out.trans ((below1 w3 (.cells #[] 3)).mono H3.out.size))
  have s0 : (w3.alloc (.cells #[] 3)).cell? ⟨b0, 0, none⟩ = some (.slice A s.t.length p) := (X1.out.later HZ3.out).cell 0; have s1 : (w3.alloc (.cells #[] 3)).cell? ⟨b0, 1, none⟩ = some (.int .i64 s.v) := (X1.out.later HZ3.out).cell 1; have s2 : (w3.alloc (.cells #[] 3)).cell? ⟨b0, 2, none⟩ = some (.int .i64 s.c) := (X1.out.later HZ3.out).cell 2; have s3 : (w3.alloc (.cells #[] 3)).cell? ⟨b0, 3, none⟩ = some (.int .i64 s.n) := (X1.out.later HZ3.out).cell 3
  go_upto_region 5 with (at_builtin; refine wp_push 23 rfl (.tmp 31) (.tmp 33) rfl rfl _ _ rfl rfl hrun ?_)
  have HW4 : Hid (Below W1.heap.size W1 W4) := Lib.hid (H3.out.trans (Q4.out.below.mono H3.out.size))
  have VW := Lib.hid (VR.of_row Q4.out (k := 0) rfl (by rw [iv_len]))
  have GW4 : Hid (Below W4.heap.size W4 W4) := Lib.hid (Below.refl _ _)
  have H2' := H2
  clear hrun Q4 s0 s1 s2 s3 H2 HZ3
  obtain ⟨O5, hO5⟩ : ∃ O, takes s x n = O := ⟨_, rfl⟩
  obtain ⟨O6, hO6⟩ : ∃ O, sees s = O := ⟨_, rfl⟩
  obtain ⟨O7, hO7⟩ : ∃ O, gives s = O := ⟨_, rfl⟩
  obtain ⟨O8, hO8⟩ : ∃ O, begins idle s.t = O := ⟨_, rfl⟩
  have C5 := Lib.hid (by have h := ptake_any s A p x n W4 HR.out (V1.out.later HW4.out); rw [hO5] at h; exact h)
  have s0 : W4.cell? ⟨b0, 0, none⟩ = some (.slice A s.t.length p) := (X1.out.later HW4.out).cell 0; have s1 : W4.cell? ⟨b0, 1, none⟩ = some (.int .i64 s.v) := (X1.out.later HW4.out).cell 1; have s2 : W4.cell? ⟨b0, 2, none⟩ = some (.int .i64 s.c) := (X1.out.later HW4.out).cell 2; have s3 : W4.cell? ⟨b0, 3, none⟩ = some (.int .i64 s.n) := (X1.out.later HW4.out).cell 3
  go_upto_region 6 with (go_at_call 23; refine C5.out.mono ?_; rintro e1 w5 ⟨A5, p5, rfl, hs⟩; have Q5 := Lib.hid hs; clear hs)
  change Code.wp _ _ _ _ (w5.alloc (.cells (sc (st O5) A5 p5) 25))
  have D5 : Hid (Below W4.heap.size W4 (w5.alloc (.cells (sc (st O5) A5 p5) 25))) := Lib.hid (Q5.out.below.trans ((below1 w5 _).mono Q5.out.below.size))
  have HW5 : Hid (Below W1.heap.size W1 (w5.alloc (.cells (sc (st O5) A5 p5) 25))) := Lib.hid (HW4.out.trans (D5.out.mono HW4.out.size))
  have T5 : Hid (∀ lb, (w5.alloc (.cells (sc (st O5) A5 p5) 25)).heap.size ≤ lb → Wr W4.heap.size lb (A5, (st O5).t.length, p5) (w5.alloc (.cells (sc (st O5) A5 p5) 25))) := Lib.hid (fun lb hlb => (Wr.of_sep Q5.out (by have := GW4.out.size; omega) (by have := (below1 w5 (.cells (sc (st O5) A5 p5) 25)).size; omega)).later (below1 w5 _))
  have B5 : Hid (Sp.Blk (w5.alloc (.cells (sc (st O5) A5 p5) 25)) w5.heap.size 25 (sc (st O5) A5 p5)) := Lib.hid (Sp.Blk.new _ _ _)
  have GW5 : Hid (Below W4.heap.size W4 (w5.alloc (.cells (sc (st O5) A5 p5) 25))) := Lib.hid (GW4.out.trans (D5.out.mono GW4.out.size))
  clear Q5 C5 D5 s0 s1 s2 s3
  generalize w5.alloc (.cells (sc (st O5) A5 p5) 25) = W5 at *
  generalize w5.heap.size = n8 at *
  have C6 := Lib.hid (by have h := psees_any s A p W5 HR.out (V1.out.later HW5.out); rw [hO6] at h; exact h)
  have s0 : W5.cell? ⟨b0, 0, none⟩ = some (.slice A s.t.length p) := (X1.out.later HW5.out).cell 0; have s1 : W5.cell? ⟨b0, 1, none⟩ = some (.int .i64 s.v) := (X1.out.later HW5.out).cell 1; have s2 : W5.cell? ⟨b0, 2, none⟩ = some (.int .i64 s.c) := (X1.out.later HW5.out).cell 2; have s3 : W5.cell? ⟨b0, 3, none⟩ = some (.int .i64 s.n) := (X1.out.later HW5.out).cell 3
  go_upto_region 7 with (go_at_call 24; refine C6.out.mono ?_; rintro e1 w6 ⟨A6, p6, rfl, hs⟩; have Q6 := Lib.hid hs; clear hs)
  change Code.wp _ _ _ _ (w6.alloc (.cells (sc (st O6) A6 p6) 25))
  have D6 : Hid (Below W5.heap.size W5 (w6.alloc (.cells (sc (st O6) A6 p6) 25))) := Lib.hid (Q6.out.below.trans ((below1 w6 _).mono Q6.out.below.size))
  have HW6 : Hid (Below W1.heap.size W1 (w6.alloc (.cells (sc (st O6) A6 p6) 25))) := Lib.hid (HW5.out.trans (D6.out.mono HW5.out.size))
  have T6 : Hid (∀ lb, (w6.alloc (.cells (sc (st O6) A6 p6) 25)).heap.size ≤ lb → Wr W4.heap.size lb (A6, (st O6).t.length, p6) (w6.alloc (.cells (sc (st O6) A6 p6) 25))) := Lib.hid (fun lb hlb => (Wr.of_sep Q6.out (by have := GW5.out.size; omega) (by have := (below1 w6 (.cells (sc (st O6) A6 p6) 25)).size; omega)).later (below1 w6 _))
  have B6 : Hid (Sp.Blk (w6.alloc (.cells (sc (st O6) A6 p6) 25)) w6.heap.size 25 (sc (st O6) A6 p6)) := Lib.hid (Sp.Blk.new _ _ _)
  have GW6 : Hid (Below W4.heap.size W4 (w6.alloc (.cells (sc (st O6) A6 p6) 25))) := Lib.hid (GW5.out.trans (D6.out.mono GW5.out.size))
  have T5 : Hid (∀ lb, (w6.alloc (.cells (sc (st O6) A6 p6) 25)).heap.size ≤ lb → Wr W4.heap.size lb (A5, (st O5).t.length, p5) (w6.alloc (.cells (sc (st O6) A6 p6) 25))) := Lib.hid (fun lb hlb => (T5.out lb (Nat.le_trans D6.out.size hlb)).later D6.out)
  have B5 := Lib.hid (B5.out.later D6.out)
  clear Q6 C6 D6 s0 s1 s2 s3
  generalize w6.alloc (.cells (sc (st O6) A6 p6) 25) = W6 at *
  generalize w6.heap.size = n10 at *
  have C7 := Lib.hid (by have h := pgiven_any s A p W6 HR.out (V1.out.later HW6.out); rw [hO7] at h; exact h)
  have s0 : W6.cell? ⟨b0, 0, none⟩ = some (.slice A s.t.length p) := (X1.out.later HW6.out).cell 0; have s1 : W6.cell? ⟨b0, 1, none⟩ = some (.int .i64 s.v) := (X1.out.later HW6.out).cell 1; have s2 : W6.cell? ⟨b0, 2, none⟩ = some (.int .i64 s.c) := (X1.out.later HW6.out).cell 2; have s3 : W6.cell? ⟨b0, 3, none⟩ = some (.int .i64 s.n) := (X1.out.later HW6.out).cell 3
  go_upto_region 8 with (go_at_call 25; refine C7.out.mono ?_; rintro e1 w7 ⟨A7, p7, rfl, hs⟩; have Q7 := Lib.hid hs; clear hs)
  change Code.wp _ _ _ _ (w7.alloc (.cells (sc (st O7) A7 p7) 25))
  have D7 : Hid (Below W6.heap.size W6 (w7.alloc (.cells (sc (st O7) A7 p7) 25))) := Lib.hid (Q7.out.below.trans ((below1 w7 _).mono Q7.out.below.size))
  have HW7 : Hid (Below W1.heap.size W1 (w7.alloc (.cells (sc (st O7) A7 p7) 25))) := Lib.hid (HW6.out.trans (D7.out.mono HW6.out.size))
  have T7 : Hid (∀ lb, (w7.alloc (.cells (sc (st O7) A7 p7) 25)).heap.size ≤ lb → Wr W4.heap.size lb (A7, (st O7).t.length, p7) (w7.alloc (.cells (sc (st O7) A7 p7) 25))) := Lib.hid (fun lb hlb => (Wr.of_sep Q7.out (by have := GW6.out.size; omega) (by have := (below1 w7 (.cells (sc (st O7) A7 p7) 25)).size; omega)).later (below1 w7 _))
  have B7 : Hid (Sp.Blk (w7.alloc (.cells (sc (st O7) A7 p7) 25)) w7.heap.size 25 (sc (st O7) A7 p7)) := Lib.hid (Sp.Blk.new _ _ _)
  have GW7 : Hid (Below W4.heap.size W4 (w7.alloc (.cells (sc (st O7) A7 p7) 25))) := Lib.hid (GW6.out.trans (D7.out.mono GW6.out.size))
  have T5 : Hid (∀ lb, (w7.alloc (.cells (sc (st O7) A7 p7) 25)).heap.size ≤ lb → Wr W4.heap.size lb (A5, (st O5).t.length, p5) (w7.alloc (.cells (sc (st O7) A7 p7) 25))) := Lib.hid (fun lb hlb => (T5.out lb (Nat.le_trans D7.out.size hlb)).later D7.out)
  have B5 := Lib.hid (B5.out.later D7.out)
  have T6 : Hid (∀ lb, (w7.alloc (.cells (sc (st O7) A7 p7) 25)).heap.size ≤ lb → Wr W4.heap.size lb (A6, (st O6).t.length, p6) (w7.alloc (.cells (sc (st O7) A7 p7) 25))) := Lib.hid (fun lb hlb => (T6.out lb (Nat.le_trans D7.out.size hlb)).later D7.out)
  have B6 := Lib.hid (B6.out.later D7.out)
  clear Q7 C7 D7 s0 s1 s2 s3
  generalize w7.alloc (.cells (sc (st O7) A7 p7) 25) = W7 at *
  generalize w7.heap.size = n12 at *
  have c0 : W7.cell? ⟨b0, 0, none⟩ = some (.slice A s.t.length p) := (X1.out.later HW7.out).cell 0
  have CI := Lib.hid (fun X => pidle_any X)
  have CB : Hid (∀ X, Below W7.heap.size W7 X → Calls Try.prog 22 #[.agg (sc idle none 0), .slice A s.t.length p] X (OutP X O8)) := Lib.hid (fun X hX => by have h := pbegin_any idle none 0 A s.t.length p s.t X idle_right (VR.nil _ _) ((V1.out.later HW7.out).later hX) HN.out; rw [hO8] at h; exact h)
  have HLE : Hid ((st O5).t.length ≤ 1000 ∧ (st O6).t.length ≤ 1000 ∧ (st O7).t.length ≤ 1000 ∧ (st O8).t.length ≤ 1000) := Lib.hid (by have h := len_le (s := s) (x := x) (n := n); rw [hO5, hO6, hO7, hO8] at h; have := HN.out; omega)
  clear hO5 hO6 hO7 hO8
  have zvp := Try.zeroValue25
  have tells := ro_tells O8 W7.heap.size
  have ok8 : NewC.Nums.Ok ⟨3, 4, 5, 7, 8, 56, 52, 57, 14⟩ := ⟨by decide, by decide, by decide, by decide, by decide, by decide, by decide, by decide, by decide, by decide, by decide, by decide, by decide, by decide, by decide, by decide⟩
  have X7 := Lib.hid (X1.out.later HW7.out)
  go_upto_region 8 with fail
  refine FreeC.wp_freeC (FreeD.wl [some (.agg (sc idle none 0)), some (.pointer (some ⟨b0, 0, none⟩)), some (.slice A s.t.length p), none, none, none, some (.int .i64 (er O8)), none, none, some (.int .i64 (er O8))]) (NewC.C ⟨3, 4, 5, 7, 8, 56, 52, 57, 14⟩ W7 25 4 (.int .i64 (er O8)) (RO O8 W7.heap.size) (fun _ => False)) (by kernel_rfl) (by kernel_rfl) (NewC.C.start _) ?_ ?_
  · refine ⟨?_, ?_, ?_, ?_, ?_, ?_, ?_, ?_, ?_, ?_, trivial⟩
    · intro listed A0 W hA hno hr K' hK
      have hsl := hA.size
      simp at hsl
      have hts : A0.tmps.size = 92 := hA.slots.trans rfl
      simp [go_sem]
      refine (CI.out W).mono ?_
      rintro e' w' ⟨rfl, hb⟩
      exact hK _ _ (hA.c.step tells 0 53 _ ⟨by decide, by decide, by decide, by decide, by decide⟩ ⟨by decide, by decide, by decide, by decide⟩ hb) rfl (fun j u _ _ hu => FreeD.wl_any hu)
    · intro listed A0 W hA hno hr K' hK
      have hsl := hA.size
      simp at hsl
      have hts : A0.tmps.size = 92 := hA.slots.trans rfl
      have e3 : A0.tmps[3]?.getD undef = .pointer (some ⟨b0, 0, none⟩) := FreeD.slot_is ((hA.kept 3 (Free.not_dst (by kernel_rfl))).trans rfl)
      simp [go_sem, e3]
      exact hK _ _ (hA.c.step tells 1 54 _ ⟨by decide, by decide, by decide, by decide, by decide⟩ ⟨by decide, by decide, by decide, by decide⟩ (Below.refl _ _)) rfl (fun j u _ _ hu => FreeD.wl_any hu)
    · intro listed A0 W hA hno hr K' hK
      have hsl := hA.size
      simp at hsl
      have hts : A0.tmps.size = 92 := hA.slots.trans rfl
      have e54 : A0.tmps[54]?.getD undef = .pointer (some ⟨b0, 0, none⟩) := FreeD.slot_is (hA.val 1 _ rfl (hr ⟨1, .data⟩ (by simp) rfl))
      have c0' : W.cell? ⟨b0, 0, none⟩ = some (.slice A s.t.length p) := (X7.out.later hA.c.b).cell 0
      simp [go_sem, e54, c0']
      exact hK _ _ (hA.c.step tells 2 55 _ ⟨by decide, by decide, by decide, by decide, by decide⟩ ⟨by decide, by decide, by decide, by decide⟩ (Below.refl _ _)) rfl (fun j u _ _ hu => FreeD.wl_any hu)
    · intro listed A0 W hA hno hr K' hK
      have hsl := hA.size
      simp at hsl
      have hts : A0.tmps.size = 92 := hA.slots.trans rfl
      have e53 : A0.tmps[53]?.getD undef = .agg (sc idle none 0) := FreeD.slot_is (hA.val 0 _ rfl (hr ⟨0, .data⟩ (by simp) rfl))
      have e55 : A0.tmps[55]?.getD undef = .slice A s.t.length p := FreeD.slot_is (hA.val 2 _ rfl (hr ⟨2, .data⟩ (by simp) rfl))
      simp [go_sem, e53, e55]
      refine (CB.out W hA.c.b).mono ?_
      rintro e' w' ⟨A8, p8, rfl, hs⟩
      refine hK (.tuple #[_, .int .i64 (er O8)]) w' (NewC.C.call tells ok8 hA.c (NewC.not_listed (by show 3 < listed.size; omega) hno) (by show 56 < A0.tmps.size; omega) ⟨A8, p8, rfl, fun h0 => ?_⟩ hs.below) trivial (fun j u _ _ hu => FreeD.wl_any hu)
      obtain ⟨g, rfl, hc⟩ := rows_cell hs (k := 0) rfl h0
      obtain ⟨cur, hb⟩ := rows_blk hs (k := 0) rfl
      have hf := row_fresh hs (k := 0) rfl _ rfl
      simp only at hf
      refine ⟨g, rfl, Nat.le_trans hA.c.b.size hf, hb.lt, ?_, fun k hk => ⟨?_, hb.frozen k⟩⟩
      · rintro (hg | ⟨_, hg⟩)
        · exact hg.elim
        · omega
      · rw [hc k (by omega)]
        exact ⟨_, List.getElem?_eq_getElem (by rw [iv_len]; exact hk)⟩
    · intro listed A0 W hA hno hr K' hK
      have hsl := hA.size
      simp at hsl
      have hts : A0.tmps.size = 92 := hA.slots.trans rfl
      obtain ⟨u, hO⟩ := hA.c
      have h3 := hr ⟨3, .data⟩ (by simp) rfl
      have ec := FreeD.slot_is (hO.dc h3).1
      simp [go_sem, ec]
      exact hK _ _ ⟨u, hO.move tells ok8 h3 (by show 4 < listed.size; omega) (by show 52 < A0.tmps.size; omega)⟩ trivial (fun j u _ _ hu => FreeD.wl_any hu)
    · intro listed A0 W hA hno hr K' hK
      have hsl := hA.size
      simp at hsl
      have hts : A0.tmps.size = 92 := hA.slots.trans rfl
      obtain ⟨u, hO⟩ := hA.c
      have h4 := hr ⟨4, .data⟩ (by simp) rfl
      have em := FreeD.slot_is (hO.dm h4).2
      simp [go_sem, em]
      exact hK _ _ ⟨u, hO.part tells ok8 h4 (by show 5 < listed.size; omega) (by show 57 < A0.tmps.size; omega)⟩ trivial (fun j u _ _ hu => FreeD.wl_any hu)
    · intro listed A0 W hA hno hr K' hK
      have hsl := hA.size
      simp at hsl
      have hts : A0.tmps.size = 92 := hA.slots.trans rfl
      obtain ⟨u, hO⟩ := hA.c
      have h4 := hr ⟨4, .data⟩ (by simp) rfl
      have em := FreeD.slot_is (hO.dm h4).2
      simp [go_sem, em]
      exact hK _ _ ⟨u, hO.step tells 6 58 _ ⟨by decide, by decide, by decide, by decide, by decide⟩ ⟨by decide, by decide, by decide, by decide⟩ (Below.refl _ _)⟩ rfl (fun j u _ _ hu => FreeD.wl_any hu)
    · intro listed A0 W hA hno hr K' hK
      have hsl := hA.size
      simp at hsl
      have hts : A0.tmps.size = 92 := hA.slots.trans rfl
      obtain ⟨u, hO⟩ := hA.c
      simp [go_sem, zvp]
      exact hK _ _ ⟨u, hO.alloc tells ok8 (by show 7 < listed.size; omega) (NewC.not_listed (by show 7 < listed.size; omega) hno) (by show 14 < A0.tmps.size; omega) _ rfl⟩ trivial (fun j u _ _ hu => FreeD.wl_any hu)
    · intro listed A0 W hA hno hr K' hK
      have hsl := hA.size
      simp at hsl
      have hts : A0.tmps.size = 92 := hA.slots.trans rfl
      obtain ⟨u, hO⟩ := hA.c
      have h5 := hr ⟨5, .data⟩ (by simp) rfl
      have h7 := hr ⟨7, .data⟩ (by simp) rfl
      have h4 := (hO.dp h5).1
      have h3 := (hO.dm h4).1
      have ep := (hO.dp h5).2
      obtain ⟨A8, p8, eu, _⟩ := (hO.dc h3).2
      obtain ⟨b, vs, ea, hbb, hvs, hB, _⟩ := hO.da h7
      refine wp_store_row _ (.tmp 14) (.tmp 57) rfl b (sc (st O8) A8 p8) ea (by have h1 := ep; rw [eu] at h1; simpa [Act.eval] using h1) _ _ hB info_p hvs (ints_one _ _ _ _ _ _) ?_
      exact hK undef _ ⟨u, hO.store tells ok8 h3 h7 ea hbb hB rfl eu⟩ trivial (fun j u _ _ hu => FreeD.wl_any hu)
    · intro listed A0 W hA hno hr K' hK
      have hsl := hA.size
      simp at hsl
      have hts : A0.tmps.size = 92 := hA.slots.trans rfl
      have e58 : A0.tmps[58]?.getD undef = .int .i64 (er O8) := FreeD.slot_is (hA.val 6 _ rfl (hr ⟨6, .data⟩ (by simp) rfl))
      simp [go_sem, e58]
      exact hK _ _ (hA.c.step tells 9 15 _ ⟨by decide, by decide, by decide, by decide, by decide⟩ ⟨by decide, by decide, by decide, by decide⟩ (Below.refl _ _)) rfl (fun j u _ _ hu => FreeD.wl_any hu)
  · intro A0 W hA
    have hde := hA.defers
    obtain ⟨y, hy, ee⟩ := frW rfl hA.slots (fun d hd => hA.kept d (kept_of (dsts := [53, 54, 55, 56, 52, 57, 58, 14, 15]) (by kernel_rfl) hd))
    obtain ⟨u, hO⟩ := hA.c
    obtain ⟨A8, p8, eu, hown⟩ := (hO.dc rfl).2
    obtain ⟨n14, vs, s14, hb14, _, K14, hvs⟩ := hO.da rfl
    obtain rfl : vs = sc (st O8) A8 p8 := by have h1 := hvs rfl; rw [eu] at h1; injection h1 with h1; exact h1.symm
    have E1 := Lib.hid hO.b
    have B8 : Hid (Sp.Blk W n14 25 (sc (st O8) A8 p8)) := Lib.hid K14
    have T8 : Hid (∀ lb, W.heap.size ≤ lb → Wr W4.heap.size lb (A8, (st O8).t.length, p8) W) := Lib.hid (fun lb hlb h0 => by
      obtain ⟨g, e1, h1, h2, _, h4⟩ := hown h0
      exact ⟨g, e1, by have := GW7.out.size; omega, by omega, h4⟩)
    have T5 := Lib.hid (fun lb (hlb : W.heap.size ≤ lb) => (T5.out lb (Nat.le_trans E1.out.size hlb)).later E1.out)
    have T6 := Lib.hid (fun lb (hlb : W.heap.size ≤ lb) => (T6.out lb (Nat.le_trans E1.out.size hlb)).later E1.out)
    have T7 := Lib.hid (fun lb (hlb : W.heap.size ≤ lb) => (T7.out lb (Nat.le_trans E1.out.size hlb)).later E1.out)
    have B5 := Lib.hid (B5.out.later E1.out)
    have B6 := Lib.hid (B6.out.later E1.out)
    have B7 := Lib.hid (B7.out.later E1.out)
    have H8 := Lib.hid (HW7.out.trans (E1.out.mono HW7.out.size))
    have G8 := Lib.hid (GW7.out.trans (E1.out.mono GW7.out.size))
    clear hA hO hown K14 hvs eu hb14 E1 CB CI tells ok8
    obtain ⟨tm, de⟩ := A0
    simp only at s14 ee hde hy
    have t14 := (hy 14).symm.trans s14
    rw [t14] at ee
    clear hy s14 t14
    subst ee hde
    have b5 := B5.out
    have b6 := B6.out
    have b7 := B7.out
    have b8 := B8.out
    go_upto_region 10 with (first
      | (with_reducible refine load_p rfl (.tmp 8) rfl n8 rfl b5 ?_)
      | (with_reducible refine load_p rfl (.tmp 10) rfl n10 rfl b6 ?_)
      | (with_reducible refine load_p rfl (.tmp 12) rfl n12 rfl b7 ?_)
      | (with_reducible refine load_p rfl (.tmp 14) rfl n14 rfl b8 ?_))
    obtain ⟨lb, hlb⟩ : ∃ lb, W.heap.size = lb := ⟨_, rfl⟩
    obtain ⟨Q, CS, hCS, I0, HQC, HQL⟩ : ∃ (Q : Nat → Option Addr × Nat × Nat) (CS : Array Value), CS = #[.slice A5 (st O5).t.length p5, .int .i64 (st O5).v, .int .i64 (st O5).c, .int .i64 (st O5).n, .slice A6 (st O6).t.length p6, .int .i64 (st O6).v, .int .i64 (st O6).c, .int .i64 (st O6).n, .slice A7 (st O7).t.length p7, .int .i64 (st O7).v, .int .i64 (st O7).c, .int .i64 (st O7).n, .slice A8 (st O8).t.length p8, .int .i64 (st O8).v, .int .i64 (st O8).c, .int .i64 (st O8).n] ∧ Hid (Inv W4 lb CS Q (W.alloc (.cells CS 25))) ∧ Hid (∀ X i, Inv W4 lb CS Q X → i < 4 → X.cell? ⟨lb, i * 4, none⟩ = some (.slice (Q i).1 (Q i).2.1 (Q i).2.2)) ∧ Hid (∀ i, (Q i).2.1 ≤ 1000) := by
      refine ⟨qs (A5, (st O5).t.length, p5) (A6, (st O6).t.length, p6) (A7, (st O7).t.length, p7) (A8, (st O8).t.length, p8), _, rfl, Lib.hid ⟨G8.out.trans ((below1 W _).mono G8.out.size), by rw [← hlb]; exact Sp.Blk.new _ _ _, fun i hi => ?_⟩, Lib.hid (fun X i h hi => Inv.cell (Q := qs (A5, (st O5).t.length, p5) (A6, (st O6).t.length, p6) (A7, (st O7).t.length, p7) (A8, (st O8).t.length, p8)) h hi), Lib.hid (fun i => ?_)⟩
      · rw [← hlb]
        rcases (by omega : i = 0 ∨ i = 1 ∨ i = 2 ∨ i = 3) with rfl | rfl | rfl | rfl
        · exact (T5.out _ (Nat.le_refl _)).later (below1 W _)
        · exact (T6.out _ (Nat.le_refl _)).later (below1 W _)
        · exact (T7.out _ (Nat.le_refl _)).later (below1 W _)
        · exact (T8.out _ (Nat.le_refl _)).later (below1 W _)
      · match i with
        | 0 => exact HLE.out.1
        | 1 => exact HLE.out.2.1
        | 2 => exact HLE.out.2.2.1
        | _ + 3 => exact HLE.out.2.2.2
    rw [← hCS, hlb]
    clear hCS b5 b6 b7 b8 B5 B6 B7 B8 T5 T6 T7 T8 HLE H8 c0 X7
    generalize W.alloc (.cells CS 25) = W9 at *
    clear hlb
    go_upto_region 11 with fail
    go_loopg [17] 4 (fun gk s17 wr => ∃ i : Nat, i ≤ 4 ∧ gk = 4 - i ∧ s17 = .int .i64 (i : Nat) ∧ Hid (Inv W4 lb CS Q wr))
    case atStart => exact ⟨0, by omega, rfl, rfl, I0⟩
    case round =>
      obtain ⟨i, hi, hgk, rfl, HI⟩ := hrel
      have HG := Lib.hid hgk
      clear hgk I0
      by_cases hlt : i < 4
      · have hl1 : (i : Int) < 4 := by omega
        have wi : IntKind.i64.wrap ((i : Int) + 1) = (i : Int) + 1 := IntWalk.i64_in _ (by omega)
        have c0 := HQC.out wr i HI.out hlt
        have hql := HQL.out i
        have HQI := Lib.hid (fun X (h : Inv W4 lb CS Q X) => And.intro (HQC.out X i h hlt) (h.q i hlt))
        generalize Q i = qi at *
        obtain ⟨qa, qn, qp⟩ := qi
        simp only at c0 hql
        have HQN := Lib.hid hql
        clear hql
        go_upto_region 14 with fail
        go_loopg [18] qn (fun gk s18 wr => ∃ k : Nat, k ≤ qn ∧ gk = qn - k ∧ s18 = .int .i64 (k : Nat) ∧ Hid (Inv W4 lb CS Q wr))
        case atStart => exact ⟨0, by omega, rfl, rfl, HI⟩
        case round =>
          obtain ⟨k, hk, hgk, rfl, HJ⟩ := hrel
          have HG2 := Lib.hid hgk
          clear hgk c0 HI
          have c0 := (HQI.out _ HJ.out).1
          by_cases hlk : k < qn
          · have hl2 : (k : Int) < (qn : Int) := by omega
            have wk : IntKind.i64.wrap ((k : Int) + 1) = (k : Int) + 1 := IntWalk.i64_in _ (by have := HQN.out; omega)
            obtain ⟨g, e1, h1, h2, h3⟩ := (HQI.out _ HJ.out).2 (by simp only; omega)
            simp only at e1 h3
            subst e1
            obtain ⟨⟨u, hu⟩, hf⟩ := h3 k hlk
            have hne : g ≠ lb := by omega
            have J2 : Hid (Inv W4 lb CS Q (wr.setCell ⟨g, k, none⟩ (.int .i64 99))) := Lib.hid ⟨HJ.out.b.setCell h1 _, blk_set HJ.out.k hne _, fun i hi => (HJ.out.q i hi).set _ _⟩
            clear h1 h2 h3
            go_wp2_with fail
            go_roundg (qn - (k + 1))
            case measure => have := HG2.out; omega
            case rel => exact ⟨k + 1, by omega, by have := HG2.out; omega, by go_num, J2⟩
          · obtain rfl : k = qn := by omega
            have hl2 : ¬ ((k : Int) < (k : Int)) := by omega
            go_wp2_with fail
            go_roundg (4 - (i + 1))
            case measure => have := HG.out; omega
            case rel => exact ⟨i + 1, by omega, by have := HG.out; omega, by go_num, HJ⟩
      · obtain rfl : i = 4 := by omega
        have hl1 : ¬ ((4 : Int) < 4) := by omega
        have H9 := Lib.hid (HW4.out.trans (HI.out.b.mono HW4.out.size))
        have c0 : wr.cell? ⟨b0, 0, none⟩ = some (.slice A s.t.length p) := (X1.out.later H9.out).cell 0
        have CE : Hid (Calls Try.prog 27 #[.slice A s.t.length p, .slice Aw s.t.length pw] wr fun e w' => e = .returned (.bool true) ∧ Below wr.heap.size wr w') := Lib.hid (by have h := rints_any A s.t.length p Aw s.t.length pw s.t s.t wr (V1.out.later H9.out) (VW.out.later HI.out.b) (by have := HN.out; omega); rw [show decide (s.t = s.t) = true by simp] at h; exact h)
        go_wp2_with (first
          | (go_at_call 18; refine (fixed_any _).mono ?_; rintro e11 w11 ⟨rfl, hb11⟩; have Q11 := Lib.hid (Q10.out.trans (hb11.mono Q10.out.size)); clear hb11)
          | (go_at_call 27; refine CE.out.mono ?_; rintro e10 w10 ⟨rfl, hb10⟩; have Q10 := Lib.hid (H9.out.trans (hb10.mono H9.out.size)); clear hb10))
        go_ret
        exact ⟨rfl, HW.out.trans (Q11.out.mono HW.out.size)⟩

set_option maxRecDepth 100000 in
theorem lifted (os : Os) (started : os.Started) (H : Type) (enc : TypeId × Value → H) :
    ReturnsInHanded {} Try.checked os 6 .any (Rows.sweepOwnSpec.pre6 enc Try.prog Try.f6 Rows.sweepOwnRow.domain false) (Rows.sweepOwnSpec.post enc Try.prog Try.f6 false true false false) := by
  refine returnsInHanded_of_change (C := Try.checked) own started (by kernel_rfl) Try.func6
    (ChangeSpec.witness6 (enc := enc) (C := Try.checked) false ⟨#[], #[.agg #[.slice none 0 0, .int .i64 0, .int .i64 0, .int .i64 0], .int .i64 0, .int .i64 0], []⟩ 8 (by kernel_rfl) (by kernel_rfl) (by kernel_rfl) (by kernel_rfl)) ?_
  intro W base args ds gs before hval0 hW hcnd _
  have hval : ∀ (j : Nat) t v, Try.f6.params[j]? = some t → args[j]? = some v → Value.okWide Try.prog W .any base t v := hval0
  have hW' := hW
  obtain ⟨p, q, hA0, hV, rfl, hfz, hnd⟩ := hW
  have hA : DataW.TrodAll enc Try.prog W 0 (fun _ => true) true Try.f6.params.toList args.toList ds p := hA0
  rw [Try.params6] at hA hval
  obtain ⟨v0, vs0, d0, ds0, p0, q0, hargs, rfl, rfl, h0, r0⟩ := trodAll_cons hA
  obtain ⟨v1, vs1, d1, ds1, p1, q1, rfl, rfl, rfl, h1, r1⟩ := trodAll_cons r0
  obtain ⟨v2, vs2, d2, ds2, p2, q2, rfl, rfl, rfl, h2, r2⟩ := trodAll_cons r1
  obtain ⟨rfl, rfl, rfl⟩ := trodAll_nil r2
  obtain rfl : args = #[v0, v1, v2] := by cases args; simp_all
  obtain ⟨rfl, rfl⟩ := trodVars_none hV
  obtain ⟨st0, Ad0, cp0, rfl, g0, l0⟩ := open_state (hval 0 25 v0 rfl rfl) h0
  obtain ⟨a1, rfl, rfl, rfl, w1⟩ := open_int Try.underlying3 (hval 1 3 v1 rfl rfl) h1
  obtain ⟨a2, rfl, rfl, rfl, w2⟩ := open_int Try.underlying3 (hval 2 3 v2 rfl rfl) h2
  clear hA0 hval0
  try simp only [List.append_nil] at hW'
  try simp only [List.nil_append] at hW'
  have hlt := fun x hx => hW'.lt x hx
  refine (walk st0 Ad0 cp0 a1 a2 W g0 l0).mono fun e W' ⟨he, hg⟩ => ?_
  subst he
  refine ⟨_, rfl, post_mem hW' (fun _ _ _ => (trodAll_cons_mk (shut_bool Try.underlying4 _) trodAll_mk0)) (fun sp hsp => ?_) (fun _ => rfl) hg (ok_one (by kernel_rfl) rfl (okWide_bool_mk Try.underlying4 _))⟩
  have hall := (trodAll_cons_mk (arg_same (sp := sp) laid (by kernel_rfl) (of_decide_eq_true (by kernel_rfl)) h0 hg (by intro x hx; simp_all) hlt hsp) (trodAll_cons_mk (arg_same (sp := sp) laid (by kernel_rfl) (of_decide_eq_true (by kernel_rfl)) h1 hg (by intro x hx; simp_all) hlt hsp) (trodAll_cons_mk (arg_same (sp := sp) laid (by kernel_rfl) (of_decide_eq_true (by kernel_rfl)) h2 hg (by intro x hx; simp_all) hlt hsp) trodAll_mk0)))
  try simp only [List.append_nil] at hall
  try simp only [List.nil_append] at hall
  exact hall

theorem over : Rows.sweepOwnRow.holds Try.pinned (OpenSpec.ofChange Rows.sweepOwnSpec) :=
  OpenClaim.holds_of_wide 6 Try.f6 rfl rfl rfl rfl rfl rfl rfl ⟨rfl, rfl, rfl, rfl, rfl⟩ rfl rfl rfl rfl rfl (by kernel_rfl) Try.func6 (by kernel_rfl)
    (of_decide_eq_true (by kernel_rfl)) (by unfold Func.isWrapper; first | (rw [if_pos (by decide +kernel)]; kernel_rfl) | (rw [if_neg (by decide +kernel)]; exact ⟨rfl, rfl⟩))
    (fun os started H enc _ => lifted os started H enc)

theorem proved : Rows.SweepOwnSaid := over
#print axioms proved
end Go.Proofs.Ytfhdckmpodmejaa.sweepOwn
