/- For every size, every first LSN and every list of calls the statement TableDoes about table and the document's own calls returns true, and changes nothing. Conditions: none. -/
import Derived.Test.YtpgbbbgblgkokaaTbX
import Derived.Test.YtpgbbbgblgkokaaTbP
import Derived.Test.YtpgbbbgblgkokaaTbZ
import Derived.Test.YtpgbbbgblgkokaaTbOps
import Derived.Test.YtpgbbbgblgkokaaTbW
import Derived.Test.YtpgbbbgblgkokaaTbV
import Derived.Test.YtpgbbbgblgkokaaTbO8
import Derived.Test.YtpgbbbgblgkokaaTbNw
import Derived.Test.YtpgbbbgblgkokaaMem
import Derived.Test.YtpgbbbgblgkokaaArr
import Derived.Test.YtpgbbbgblgkokaaClass
import Derived.Deep.QuietTactic
import Derived.BigQuiet
import Derived.Deep.DeepCutAuto
import Derived.Deep.LoopGhost
import Derived.Deep.RegionWith
import Derived.StillTailTactics
import Derived.WalkSmall
import Derived.IntWalk
import Derived.ProofKit
import Derived.OpenShut
import Derived.ShutString
import Derived.SizedLaws
namespace Go.Proofs.Ytpgbbbgblgkokaa.tableDoes
open Go.ChangeShapes Go.WideShapes Go.ChangeAt Go.RowKit Go.Lib Go.MapKept
open Go.ChangeMaps (open_string shut_string)
set_option linter.unusedVariables false

theorem own : ownKnob Try.prog.godebug = none := by kernel_rfl
theorem laid : laidOutB Try.prog = true := by kernel_rfl

theorem arrF122 {cs : Array Value} (h : cs.size = 122) : ∃ y : Nat → Value, (∀ i, cs.getD i undef = y i) ∧ cs = #[y 0, y 1, y 2, y 3, y 4, y 5, y 6, y 7, y 8, y 9, y 10, y 11, y 12, y 13, y 14, y 15, y 16, y 17, y 18, y 19, y 20, y 21, y 22, y 23, y 24, y 25, y 26, y 27, y 28, y 29, y 30, y 31, y 32, y 33, y 34, y 35, y 36, y 37, y 38, y 39, y 40, y 41, y 42, y 43, y 44, y 45, y 46, y 47, y 48, y 49, y 50, y 51, y 52, y 53, y 54, y 55, y 56, y 57, y 58, y 59, y 60, y 61, y 62, y 63, y 64, y 65, y 66, y 67, y 68, y 69, y 70, y 71, y 72, y 73, y 74, y 75, y 76, y 77, y 78, y 79, y 80, y 81, y 82, y 83, y 84, y 85, y 86, y 87, y 88, y 89, y 90, y 91, y 92, y 93, y 94, y 95, y 96, y 97, y 98, y 99, y 100, y 101, y 102, y 103, y 104, y 105, y 106, y 107, y 108, y 109, y 110, y 111, y 112, y 113, y 114, y 115, y 116, y 117, y 118, y 119, y 120, y 121] := by
  refine ⟨fun i => cs.getD i undef, fun _ => rfl, ?_⟩
  have e : cs = ((List.range 122).map fun i => cs.getD i undef).toArray := by
    apply Array.ext
    · simp [h]
    · intro i h1 h2
      simp [h1]
  exact e.trans rfl
theorem kept_of {ops : Array Oper} {dsts : List Nat} {listed : Array Bool} (h : ops.all (fun o => match o.dst with | none => true | some d => dsts.contains d) = true) {d : Nat} (hd : dsts.contains d = false) : ∀ i o, ops[i]? = some o → listed.getD i false = true → o.dst ≠ some d := by
  intro i o hi _ e
  rw [Array.all_eq_true_iff_forall_mem] at h
  have := h o (Array.mem_of_getElem? hi)
  rw [e] at this
  simp only at this
  rw [hd] at this
  cases this
set_option maxRecDepth 100000 in
theorem fr8 {z0 z1 z2 z3 z4 z5 z6 z7 z8 z9 z10 z11 z12 z13 z14 z15 z16 z17 z18 z19 z20 z21 z22 z23 z24 z25 z26 z27 z28 z29 z30 z31 z32 z33 z34 z35 z36 z37 z38 z39 z40 z41 z42 z43 z44 z45 z46 z47 z48 z49 z50 z51 z52 z53 z54 z55 z56 z57 z58 z59 z60 z61 z62 z63 z64 z65 z66 z67 z68 z69 z70 z71 z72 z73 z74 z75 z76 z77 z78 z79 z80 z81 z82 z83 z84 z85 z86 z87 z88 z89 z90 z91 z92 z93 z94 z95 z96 z97 z98 z99 z100 z101 z102 z103 z104 z105 z106 z107 z108 z109 z110 z111 z112 z113 z114 z115 z116 z117 z118 z119 z120 z121 : Value} {ts us : Array Value} (hz : ts = #[z0, z1, z2, z3, z4, z5, z6, z7, z8, z9, z10, z11, z12, z13, z14, z15, z16, z17, z18, z19, z20, z21, z22, z23, z24, z25, z26, z27, z28, z29, z30, z31, z32, z33, z34, z35, z36, z37, z38, z39, z40, z41, z42, z43, z44, z45, z46, z47, z48, z49, z50, z51, z52, z53, z54, z55, z56, z57, z58, z59, z60, z61, z62, z63, z64, z65, z66, z67, z68, z69, z70, z71, z72, z73, z74, z75, z76, z77, z78, z79, z80, z81, z82, z83, z84, z85, z86, z87, z88, z89, z90, z91, z92, z93, z94, z95, z96, z97, z98, z99, z100, z101, z102, z103, z104, z105, z106, z107, z108, z109, z110, z111, z112, z113, z114, z115, z116, z117, z118, z119, z120, z121]) (hs : us.size = ts.size) (hk : ∀ d, [65, 66, 67, 68, 69, 70, 71, 64, 72, 73, 74, 12, 13, 14].contains d = false → us.getD d undef = ts.getD d undef) :
    ∃ y : Nat → Value, (∀ i, us.getD i undef = y i) ∧ us = #[z0, z1, z2, z3, z4, z5, z6, z7, z8, z9, z10, z11, y 12, y 13, y 14, z15, z16, z17, z18, z19, z20, z21, z22, z23, z24, z25, z26, z27, z28, z29, z30, z31, z32, z33, z34, z35, z36, z37, z38, z39, z40, z41, z42, z43, z44, z45, z46, z47, z48, z49, z50, z51, z52, z53, z54, z55, z56, z57, z58, z59, z60, z61, z62, z63, y 64, y 65, y 66, y 67, y 68, y 69, y 70, y 71, y 72, y 73, y 74, z75, z76, z77, z78, z79, z80, z81, z82, z83, z84, z85, z86, z87, z88, z89, z90, z91, z92, z93, z94, z95, z96, z97, z98, z99, z100, z101, z102, z103, z104, z105, z106, z107, z108, z109, z110, z111, z112, z113, z114, z115, z116, z117, z118, z119, z120, z121] := by
  obtain ⟨y, hy, e⟩ := arrF122 (cs := us) (by rw [hs, hz]; rfl)
  subst hz
  refine ⟨y, hy, e.trans ?_⟩
  have e0 : y 0 = z0 := (hy 0).symm.trans (hk 0 rfl)
  have e1 : y 1 = z1 := (hy 1).symm.trans (hk 1 rfl)
  have e2 : y 2 = z2 := (hy 2).symm.trans (hk 2 rfl)
  have e3 : y 3 = z3 := (hy 3).symm.trans (hk 3 rfl)
  have e4 : y 4 = z4 := (hy 4).symm.trans (hk 4 rfl)
  have e5 : y 5 = z5 := (hy 5).symm.trans (hk 5 rfl)
  have e6 : y 6 = z6 := (hy 6).symm.trans (hk 6 rfl)
  have e7 : y 7 = z7 := (hy 7).symm.trans (hk 7 rfl)
  have e8 : y 8 = z8 := (hy 8).symm.trans (hk 8 rfl)
  have e9 : y 9 = z9 := (hy 9).symm.trans (hk 9 rfl)
  have e10 : y 10 = z10 := (hy 10).symm.trans (hk 10 rfl)
  have e11 : y 11 = z11 := (hy 11).symm.trans (hk 11 rfl)
  have e15 : y 15 = z15 := (hy 15).symm.trans (hk 15 rfl)
  have e16 : y 16 = z16 := (hy 16).symm.trans (hk 16 rfl)
  have e17 : y 17 = z17 := (hy 17).symm.trans (hk 17 rfl)
  have e18 : y 18 = z18 := (hy 18).symm.trans (hk 18 rfl)
  have e19 : y 19 = z19 := (hy 19).symm.trans (hk 19 rfl)
  have e20 : y 20 = z20 := (hy 20).symm.trans (hk 20 rfl)
  have e21 : y 21 = z21 := (hy 21).symm.trans (hk 21 rfl)
  have e22 : y 22 = z22 := (hy 22).symm.trans (hk 22 rfl)
  have e23 : y 23 = z23 := (hy 23).symm.trans (hk 23 rfl)
  have e24 : y 24 = z24 := (hy 24).symm.trans (hk 24 rfl)
  have e25 : y 25 = z25 := (hy 25).symm.trans (hk 25 rfl)
  have e26 : y 26 = z26 := (hy 26).symm.trans (hk 26 rfl)
  have e27 : y 27 = z27 := (hy 27).symm.trans (hk 27 rfl)
  have e28 : y 28 = z28 := (hy 28).symm.trans (hk 28 rfl)
  have e29 : y 29 = z29 := (hy 29).symm.trans (hk 29 rfl)
  have e30 : y 30 = z30 := (hy 30).symm.trans (hk 30 rfl)
  have e31 : y 31 = z31 := (hy 31).symm.trans (hk 31 rfl)
  have e32 : y 32 = z32 := (hy 32).symm.trans (hk 32 rfl)
  have e33 : y 33 = z33 := (hy 33).symm.trans (hk 33 rfl)
  have e34 : y 34 = z34 := (hy 34).symm.trans (hk 34 rfl)
  have e35 : y 35 = z35 := (hy 35).symm.trans (hk 35 rfl)
  have e36 : y 36 = z36 := (hy 36).symm.trans (hk 36 rfl)
  have e37 : y 37 = z37 := (hy 37).symm.trans (hk 37 rfl)
  have e38 : y 38 = z38 := (hy 38).symm.trans (hk 38 rfl)
  have e39 : y 39 = z39 := (hy 39).symm.trans (hk 39 rfl)
  have e40 : y 40 = z40 := (hy 40).symm.trans (hk 40 rfl)
  have e41 : y 41 = z41 := (hy 41).symm.trans (hk 41 rfl)
  have e42 : y 42 = z42 := (hy 42).symm.trans (hk 42 rfl)
  have e43 : y 43 = z43 := (hy 43).symm.trans (hk 43 rfl)
  have e44 : y 44 = z44 := (hy 44).symm.trans (hk 44 rfl)
  have e45 : y 45 = z45 := (hy 45).symm.trans (hk 45 rfl)
  have e46 : y 46 = z46 := (hy 46).symm.trans (hk 46 rfl)
  have e47 : y 47 = z47 := (hy 47).symm.trans (hk 47 rfl)
  have e48 : y 48 = z48 := (hy 48).symm.trans (hk 48 rfl)
  have e49 : y 49 = z49 := (hy 49).symm.trans (hk 49 rfl)
  have e50 : y 50 = z50 := (hy 50).symm.trans (hk 50 rfl)
  have e51 : y 51 = z51 := (hy 51).symm.trans (hk 51 rfl)
  have e52 : y 52 = z52 := (hy 52).symm.trans (hk 52 rfl)
  have e53 : y 53 = z53 := (hy 53).symm.trans (hk 53 rfl)
  have e54 : y 54 = z54 := (hy 54).symm.trans (hk 54 rfl)
  have e55 : y 55 = z55 := (hy 55).symm.trans (hk 55 rfl)
  have e56 : y 56 = z56 := (hy 56).symm.trans (hk 56 rfl)
  have e57 : y 57 = z57 := (hy 57).symm.trans (hk 57 rfl)
  have e58 : y 58 = z58 := (hy 58).symm.trans (hk 58 rfl)
  have e59 : y 59 = z59 := (hy 59).symm.trans (hk 59 rfl)
  have e60 : y 60 = z60 := (hy 60).symm.trans (hk 60 rfl)
  have e61 : y 61 = z61 := (hy 61).symm.trans (hk 61 rfl)
  have e62 : y 62 = z62 := (hy 62).symm.trans (hk 62 rfl)
  have e63 : y 63 = z63 := (hy 63).symm.trans (hk 63 rfl)
  have e75 : y 75 = z75 := (hy 75).symm.trans (hk 75 rfl)
  have e76 : y 76 = z76 := (hy 76).symm.trans (hk 76 rfl)
  have e77 : y 77 = z77 := (hy 77).symm.trans (hk 77 rfl)
  have e78 : y 78 = z78 := (hy 78).symm.trans (hk 78 rfl)
  have e79 : y 79 = z79 := (hy 79).symm.trans (hk 79 rfl)
  have e80 : y 80 = z80 := (hy 80).symm.trans (hk 80 rfl)
  have e81 : y 81 = z81 := (hy 81).symm.trans (hk 81 rfl)
  have e82 : y 82 = z82 := (hy 82).symm.trans (hk 82 rfl)
  have e83 : y 83 = z83 := (hy 83).symm.trans (hk 83 rfl)
  have e84 : y 84 = z84 := (hy 84).symm.trans (hk 84 rfl)
  have e85 : y 85 = z85 := (hy 85).symm.trans (hk 85 rfl)
  have e86 : y 86 = z86 := (hy 86).symm.trans (hk 86 rfl)
  have e87 : y 87 = z87 := (hy 87).symm.trans (hk 87 rfl)
  have e88 : y 88 = z88 := (hy 88).symm.trans (hk 88 rfl)
  have e89 : y 89 = z89 := (hy 89).symm.trans (hk 89 rfl)
  have e90 : y 90 = z90 := (hy 90).symm.trans (hk 90 rfl)
  have e91 : y 91 = z91 := (hy 91).symm.trans (hk 91 rfl)
  have e92 : y 92 = z92 := (hy 92).symm.trans (hk 92 rfl)
  have e93 : y 93 = z93 := (hy 93).symm.trans (hk 93 rfl)
  have e94 : y 94 = z94 := (hy 94).symm.trans (hk 94 rfl)
  have e95 : y 95 = z95 := (hy 95).symm.trans (hk 95 rfl)
  have e96 : y 96 = z96 := (hy 96).symm.trans (hk 96 rfl)
  have e97 : y 97 = z97 := (hy 97).symm.trans (hk 97 rfl)
  have e98 : y 98 = z98 := (hy 98).symm.trans (hk 98 rfl)
  have e99 : y 99 = z99 := (hy 99).symm.trans (hk 99 rfl)
  have e100 : y 100 = z100 := (hy 100).symm.trans (hk 100 rfl)
  have e101 : y 101 = z101 := (hy 101).symm.trans (hk 101 rfl)
  have e102 : y 102 = z102 := (hy 102).symm.trans (hk 102 rfl)
  have e103 : y 103 = z103 := (hy 103).symm.trans (hk 103 rfl)
  have e104 : y 104 = z104 := (hy 104).symm.trans (hk 104 rfl)
  have e105 : y 105 = z105 := (hy 105).symm.trans (hk 105 rfl)
  have e106 : y 106 = z106 := (hy 106).symm.trans (hk 106 rfl)
  have e107 : y 107 = z107 := (hy 107).symm.trans (hk 107 rfl)
  have e108 : y 108 = z108 := (hy 108).symm.trans (hk 108 rfl)
  have e109 : y 109 = z109 := (hy 109).symm.trans (hk 109 rfl)
  have e110 : y 110 = z110 := (hy 110).symm.trans (hk 110 rfl)
  have e111 : y 111 = z111 := (hy 111).symm.trans (hk 111 rfl)
  have e112 : y 112 = z112 := (hy 112).symm.trans (hk 112 rfl)
  have e113 : y 113 = z113 := (hy 113).symm.trans (hk 113 rfl)
  have e114 : y 114 = z114 := (hy 114).symm.trans (hk 114 rfl)
  have e115 : y 115 = z115 := (hy 115).symm.trans (hk 115 rfl)
  have e116 : y 116 = z116 := (hy 116).symm.trans (hk 116 rfl)
  have e117 : y 117 = z117 := (hy 117).symm.trans (hk 117 rfl)
  have e118 : y 118 = z118 := (hy 118).symm.trans (hk 118 rfl)
  have e119 : y 119 = z119 := (hy 119).symm.trans (hk 119 rfl)
  have e120 : y 120 = z120 := (hy 120).symm.trans (hk 120 rfl)
  have e121 : y 121 = z121 := (hy 121).symm.trans (hk 121 rfl)
  simp only [e0, e1, e2, e3, e4, e5, e6, e7, e8, e9, e10, e11, e15, e16, e17, e18, e19, e20, e21, e22, e23, e24, e25, e26, e27, e28, e29, e30, e31, e32, e33, e34, e35, e36, e37, e38, e39, e40, e41, e42, e43, e44, e45, e46, e47, e48, e49, e50, e51, e52, e53, e54, e55, e56, e57, e58, e59, e60, e61, e62, e63, e75, e76, e77, e78, e79, e80, e81, e82, e83, e84, e85, e86, e87, e88, e89, e90, e91, e92, e93, e94, e95, e96, e97, e98, e99, e100, e101, e102, e103, e104, e105, e106, e107, e108, e109, e110, e111, e112, e113, e114, e115, e116, e117, e118, e119, e120, e121]
set_option maxRecDepth 100000 in
theorem fr13 {z0 z1 z2 z3 z4 z5 z6 z7 z8 z9 z10 z11 z12 z13 z14 z15 z16 z17 z18 z19 z20 z21 z22 z23 z24 z25 z26 z27 z28 z29 z30 z31 z32 z33 z34 z35 z36 z37 z38 z39 z40 z41 z42 z43 z44 z45 z46 z47 z48 z49 z50 z51 z52 z53 z54 z55 z56 z57 z58 z59 z60 z61 z62 z63 z64 z65 z66 z67 z68 z69 z70 z71 z72 z73 z74 z75 z76 z77 z78 z79 z80 z81 z82 z83 z84 z85 z86 z87 z88 z89 z90 z91 z92 z93 z94 z95 z96 z97 z98 z99 z100 z101 z102 z103 z104 z105 z106 z107 z108 z109 z110 z111 z112 z113 z114 z115 z116 z117 z118 z119 z120 z121 : Value} {ts us : Array Value} (hz : ts = #[z0, z1, z2, z3, z4, z5, z6, z7, z8, z9, z10, z11, z12, z13, z14, z15, z16, z17, z18, z19, z20, z21, z22, z23, z24, z25, z26, z27, z28, z29, z30, z31, z32, z33, z34, z35, z36, z37, z38, z39, z40, z41, z42, z43, z44, z45, z46, z47, z48, z49, z50, z51, z52, z53, z54, z55, z56, z57, z58, z59, z60, z61, z62, z63, z64, z65, z66, z67, z68, z69, z70, z71, z72, z73, z74, z75, z76, z77, z78, z79, z80, z81, z82, z83, z84, z85, z86, z87, z88, z89, z90, z91, z92, z93, z94, z95, z96, z97, z98, z99, z100, z101, z102, z103, z104, z105, z106, z107, z108, z109, z110, z111, z112, z113, z114, z115, z116, z117, z118, z119, z120, z121]) (hs : us.size = ts.size) (hk : ∀ d, [84, 85, 86, 87, 88, 89, 90, 91, 92, 93, 94, 95, 96, 97, 98, 99, 100, 101, 102, 103, 104, 105, 106, 107, 108, 109, 110, 111, 112, 113, 114, 115, 116, 117, 118, 119, 120].contains d = false → us.getD d undef = ts.getD d undef) :
    ∃ y : Nat → Value, (∀ i, us.getD i undef = y i) ∧ us = #[z0, z1, z2, z3, z4, z5, z6, z7, z8, z9, z10, z11, z12, z13, z14, z15, z16, z17, z18, z19, z20, z21, z22, z23, z24, z25, z26, z27, z28, z29, z30, z31, z32, z33, z34, z35, z36, z37, z38, z39, z40, z41, z42, z43, z44, z45, z46, z47, z48, z49, z50, z51, z52, z53, z54, z55, z56, z57, z58, z59, z60, z61, z62, z63, z64, z65, z66, z67, z68, z69, z70, z71, z72, z73, z74, z75, z76, z77, z78, z79, z80, z81, z82, z83, y 84, y 85, y 86, y 87, y 88, y 89, y 90, y 91, y 92, y 93, y 94, y 95, y 96, y 97, y 98, y 99, y 100, y 101, y 102, y 103, y 104, y 105, y 106, y 107, y 108, y 109, y 110, y 111, y 112, y 113, y 114, y 115, y 116, y 117, y 118, y 119, y 120, z121] := by
  obtain ⟨y, hy, e⟩ := arrF122 (cs := us) (by rw [hs, hz]; rfl)
  subst hz
  refine ⟨y, hy, e.trans ?_⟩
  have e0 : y 0 = z0 := (hy 0).symm.trans (hk 0 rfl)
  have e1 : y 1 = z1 := (hy 1).symm.trans (hk 1 rfl)
  have e2 : y 2 = z2 := (hy 2).symm.trans (hk 2 rfl)
  have e3 : y 3 = z3 := (hy 3).symm.trans (hk 3 rfl)
  have e4 : y 4 = z4 := (hy 4).symm.trans (hk 4 rfl)
  have e5 : y 5 = z5 := (hy 5).symm.trans (hk 5 rfl)
  have e6 : y 6 = z6 := (hy 6).symm.trans (hk 6 rfl)
  have e7 : y 7 = z7 := (hy 7).symm.trans (hk 7 rfl)
  have e8 : y 8 = z8 := (hy 8).symm.trans (hk 8 rfl)
  have e9 : y 9 = z9 := (hy 9).symm.trans (hk 9 rfl)
  have e10 : y 10 = z10 := (hy 10).symm.trans (hk 10 rfl)
  have e11 : y 11 = z11 := (hy 11).symm.trans (hk 11 rfl)
  have e12 : y 12 = z12 := (hy 12).symm.trans (hk 12 rfl)
  have e13 : y 13 = z13 := (hy 13).symm.trans (hk 13 rfl)
  have e14 : y 14 = z14 := (hy 14).symm.trans (hk 14 rfl)
  have e15 : y 15 = z15 := (hy 15).symm.trans (hk 15 rfl)
  have e16 : y 16 = z16 := (hy 16).symm.trans (hk 16 rfl)
  have e17 : y 17 = z17 := (hy 17).symm.trans (hk 17 rfl)
  have e18 : y 18 = z18 := (hy 18).symm.trans (hk 18 rfl)
  have e19 : y 19 = z19 := (hy 19).symm.trans (hk 19 rfl)
  have e20 : y 20 = z20 := (hy 20).symm.trans (hk 20 rfl)
  have e21 : y 21 = z21 := (hy 21).symm.trans (hk 21 rfl)
  have e22 : y 22 = z22 := (hy 22).symm.trans (hk 22 rfl)
  have e23 : y 23 = z23 := (hy 23).symm.trans (hk 23 rfl)
  have e24 : y 24 = z24 := (hy 24).symm.trans (hk 24 rfl)
  have e25 : y 25 = z25 := (hy 25).symm.trans (hk 25 rfl)
  have e26 : y 26 = z26 := (hy 26).symm.trans (hk 26 rfl)
  have e27 : y 27 = z27 := (hy 27).symm.trans (hk 27 rfl)
  have e28 : y 28 = z28 := (hy 28).symm.trans (hk 28 rfl)
  have e29 : y 29 = z29 := (hy 29).symm.trans (hk 29 rfl)
  have e30 : y 30 = z30 := (hy 30).symm.trans (hk 30 rfl)
  have e31 : y 31 = z31 := (hy 31).symm.trans (hk 31 rfl)
  have e32 : y 32 = z32 := (hy 32).symm.trans (hk 32 rfl)
  have e33 : y 33 = z33 := (hy 33).symm.trans (hk 33 rfl)
  have e34 : y 34 = z34 := (hy 34).symm.trans (hk 34 rfl)
  have e35 : y 35 = z35 := (hy 35).symm.trans (hk 35 rfl)
  have e36 : y 36 = z36 := (hy 36).symm.trans (hk 36 rfl)
  have e37 : y 37 = z37 := (hy 37).symm.trans (hk 37 rfl)
  have e38 : y 38 = z38 := (hy 38).symm.trans (hk 38 rfl)
  have e39 : y 39 = z39 := (hy 39).symm.trans (hk 39 rfl)
  have e40 : y 40 = z40 := (hy 40).symm.trans (hk 40 rfl)
  have e41 : y 41 = z41 := (hy 41).symm.trans (hk 41 rfl)
  have e42 : y 42 = z42 := (hy 42).symm.trans (hk 42 rfl)
  have e43 : y 43 = z43 := (hy 43).symm.trans (hk 43 rfl)
  have e44 : y 44 = z44 := (hy 44).symm.trans (hk 44 rfl)
  have e45 : y 45 = z45 := (hy 45).symm.trans (hk 45 rfl)
  have e46 : y 46 = z46 := (hy 46).symm.trans (hk 46 rfl)
  have e47 : y 47 = z47 := (hy 47).symm.trans (hk 47 rfl)
  have e48 : y 48 = z48 := (hy 48).symm.trans (hk 48 rfl)
  have e49 : y 49 = z49 := (hy 49).symm.trans (hk 49 rfl)
  have e50 : y 50 = z50 := (hy 50).symm.trans (hk 50 rfl)
  have e51 : y 51 = z51 := (hy 51).symm.trans (hk 51 rfl)
  have e52 : y 52 = z52 := (hy 52).symm.trans (hk 52 rfl)
  have e53 : y 53 = z53 := (hy 53).symm.trans (hk 53 rfl)
  have e54 : y 54 = z54 := (hy 54).symm.trans (hk 54 rfl)
  have e55 : y 55 = z55 := (hy 55).symm.trans (hk 55 rfl)
  have e56 : y 56 = z56 := (hy 56).symm.trans (hk 56 rfl)
  have e57 : y 57 = z57 := (hy 57).symm.trans (hk 57 rfl)
  have e58 : y 58 = z58 := (hy 58).symm.trans (hk 58 rfl)
  have e59 : y 59 = z59 := (hy 59).symm.trans (hk 59 rfl)
  have e60 : y 60 = z60 := (hy 60).symm.trans (hk 60 rfl)
  have e61 : y 61 = z61 := (hy 61).symm.trans (hk 61 rfl)
  have e62 : y 62 = z62 := (hy 62).symm.trans (hk 62 rfl)
  have e63 : y 63 = z63 := (hy 63).symm.trans (hk 63 rfl)
  have e64 : y 64 = z64 := (hy 64).symm.trans (hk 64 rfl)
  have e65 : y 65 = z65 := (hy 65).symm.trans (hk 65 rfl)
  have e66 : y 66 = z66 := (hy 66).symm.trans (hk 66 rfl)
  have e67 : y 67 = z67 := (hy 67).symm.trans (hk 67 rfl)
  have e68 : y 68 = z68 := (hy 68).symm.trans (hk 68 rfl)
  have e69 : y 69 = z69 := (hy 69).symm.trans (hk 69 rfl)
  have e70 : y 70 = z70 := (hy 70).symm.trans (hk 70 rfl)
  have e71 : y 71 = z71 := (hy 71).symm.trans (hk 71 rfl)
  have e72 : y 72 = z72 := (hy 72).symm.trans (hk 72 rfl)
  have e73 : y 73 = z73 := (hy 73).symm.trans (hk 73 rfl)
  have e74 : y 74 = z74 := (hy 74).symm.trans (hk 74 rfl)
  have e75 : y 75 = z75 := (hy 75).symm.trans (hk 75 rfl)
  have e76 : y 76 = z76 := (hy 76).symm.trans (hk 76 rfl)
  have e77 : y 77 = z77 := (hy 77).symm.trans (hk 77 rfl)
  have e78 : y 78 = z78 := (hy 78).symm.trans (hk 78 rfl)
  have e79 : y 79 = z79 := (hy 79).symm.trans (hk 79 rfl)
  have e80 : y 80 = z80 := (hy 80).symm.trans (hk 80 rfl)
  have e81 : y 81 = z81 := (hy 81).symm.trans (hk 81 rfl)
  have e82 : y 82 = z82 := (hy 82).symm.trans (hk 82 rfl)
  have e83 : y 83 = z83 := (hy 83).symm.trans (hk 83 rfl)
  have e121 : y 121 = z121 := (hy 121).symm.trans (hk 121 rfl)
  simp only [e0, e1, e2, e3, e4, e5, e6, e7, e8, e9, e10, e11, e12, e13, e14, e15, e16, e17, e18, e19, e20, e21, e22, e23, e24, e25, e26, e27, e28, e29, e30, e31, e32, e33, e34, e35, e36, e37, e38, e39, e40, e41, e42, e43, e44, e45, e46, e47, e48, e49, e50, e51, e52, e53, e54, e55, e56, e57, e58, e59, e60, e61, e62, e63, e64, e65, e66, e67, e68, e69, e70, e71, e72, e73, e74, e75, e76, e77, e78, e79, e80, e81, e82, e83, e121]
theorem small_ok {t : Tab} (h : okP t) : Small t.l := ⟨by have := ok_bd h; omega, fun x hx => by have h1 := h.2.2.2.2.2.1 x hx; have h2 := h.2.1; omega⟩
/-- Behind each round: two tables that read as the same plain one. -/
structure DoI (w : World) (ba bc : Nat) (sg st : Int) (A : Option Addr) (m p : Nat) (B : Option Addr) (k q : Nat) (C : Option Addr) (n r : Nat) (A1 : Option Addr) (m1 p1 : Nat) (B1 : Option Addr) (k1 q1 : Nat) (C1 : Option Addr) (n1 r1 : Nat) (o l f : List Int) (W : World) : Prop where
  b : Below w.heap.size w W
  ka : Blk W ba 28 (csT sg st A m p B k q C n r)
  kc : Blk W bc 32 (csT sg st A1 m1 p1 B1 k1 q1 C1 n1 r1)
  ok : okP ⟨sg, st, o, l, f⟩
  ta : TIn W A m B k C n o l f
  tc : TIn W A1 m1 B1 k1 C1 n1 o l f
  mp : m ≤ p
  na : Nb3 A B C ba ∧ Nb3 A1 B1 C1 ba
  nc : Nb3 A B C bc ∧ Nb3 A1 B1 C1 bc
set_option maxRecDepth 100000 in
set_option maxHeartbeats 64000000 in
theorem walk (x0 x1 X : Int) (L : Option Addr) (N c : Nat) (K G H : Nat → Int) (w : World) (_ : (Lit.int .i64 x0).wf = true) (_ : (Lit.int .i64 x1).wf = true) (_ : (Lit.int .u64 X).wf = true) (hN : N ≤ maxLen) (hc : TopsIn w L N K G H) :
    Calls Try.prog 3 #[.agg #[.int .i64 x0, .int .i64 x1], .int .u64 X, .slice L N c] w fun e w' => e = .returned (.bool true) ∧ Below w.heap.size w w' := by
  have HC := Lib.hid hc
  have HN := Lib.hid hN
  have BB : Below w.heap.size w (w.alloc (.cells #[.int .i64 x0, .int .i64 x1] 22)) := below1 _ _
  have K0 : Blk (w.alloc (.cells #[.int .i64 x0, .int .i64 x1] 22)) w.heap.size 22 #[.int .i64 x0, .int .i64 x1] := Blk.new w _ _
  obtain ⟨s, HS⟩ : ∃ s, Hid (sizeB x0 x1 = s) := ⟨_, Lib.hid rfl⟩
  obtain ⟨⟨sg, st, o, l, f⟩, HT⟩ : ∃ u, Hid ((if s = true then newT x0 x1 X else zeroT) = u) := ⟨_, Lib.hid rfl⟩
  obtain ⟨er, HE⟩ : ∃ u : Int, Hid ((if s = true then 0 else 1) = u) := ⟨_, Lib.hid rfl⟩
  have QA := Lib.hid (fun W => new_any x0 x1 X W)
  have QC := Lib.hid (fun W => rnew_own x0 x1 X W)
  rw [HS.out, HT.out, HE.out] at QA QC
  have hv := Try.zeroValue28
  have hv2 := Try.zeroValue32
  clear hN hc
  go_enter Try.func3, Try.ntmps3
  go_upto_region 1 with fail
  generalize (w.alloc (.cells #[.int .i64 x0, .int .i64 x1] 22)) = wb at *
  have c0 : wb.cell? ⟨w.heap.size, 0, none⟩ = some (.int .i64 x0) := K0.cell 0
  have c1 : wb.cell? ⟨w.heap.size, 1, none⟩ = some (.int .i64 x1) := K0.cell 1
  go_wp2_with fail
  refine (resv (QA.out _) rfl rfl).mono ?_
  rintro e' wa ⟨Aa, ma, pa, Ba, ka, qa, Ca, na, ra, rfl, ta, mpa, fra, hb⟩
  replace K0 := K0.later hb
  replace BB := Ge.trans BB hb
  have naa : Hid (okP ⟨sg, st, o, l, f⟩ → Nb3 Aa Ba Ca wa.heap.size) := Lib.hid (fun h => TIn.nb h ta (Nat.le_refl _))
  clear hb c0 c1
  have hwa := BB.size
  have Na : Blk (wa.alloc (.cells #[.int .i64 0, .int .i64 0, .slice none 0 0, .slice none 0 0, .slice none 0 0] 28)) wa.heap.size 28 (csT 0 0 none 0 0 none 0 0 none 0 0) := Blk.new wa _ _
  go_upto_region 2 with (with_reducible refine store_t rfl (.tmp 7) (.tmp 22) rfl wa.heap.size rfl rfl Na ?_)
  have hb3 : Below wa.heap.size wa ((wa.alloc (.cells #[.int .i64 0, .int .i64 0, .slice none 0 0, .slice none 0 0, .slice none 0 0] 28)).setRow wa.heap.size (csT sg st Aa ma pa Ba ka qa Ca na ra)) := below_row (below1 _ _) (Nat.le_refl _) _
  have Ka : Blk ((wa.alloc (.cells #[.int .i64 0, .int .i64 0, .slice none 0 0, .slice none 0 0, .slice none 0 0] 28)).setRow wa.heap.size (csT sg st Aa ma pa Ba ka qa Ca na ra)) wa.heap.size 28 (csT sg st Aa ma pa Ba ka qa Ca na ra) := Na.row _
  replace K0 := K0.later hb3
  replace ta := ta.later hb3
  replace BB := Ge.trans BB hb3
  clear hb3 Na
  generalize (wa.alloc (.cells #[.int .i64 0, .int .i64 0, .slice none 0 0, .slice none 0 0, .slice none 0 0] 28)).setRow wa.heap.size (csT sg st Aa ma pa Ba ka qa Ca na ra) = ya at *
  generalize wa.heap.size = ba at *
  have c0 : ya.cell? ⟨w.heap.size, 0, none⟩ = some (.int .i64 x0) := K0.cell 0
  have c1 : ya.cell? ⟨w.heap.size, 1, none⟩ = some (.int .i64 x1) := K0.cell 1
  have hba := Ka.lt
  go_wp2_with (first | (with_reducible refine load_t rfl (.tmp 7) rfl ba rfl Ka ?_))
  refine (refv (QC.out _) rfl rfl).mono ?_
  rintro e' wc ⟨Ac, mc, pc, Bc, kc, qc, Cc, nc, rc, rfl, tc, frc, hb⟩
  replace K0 := K0.later hb
  replace ta := ta.later hb
  replace Ka := Ka.later hb
  replace BB := Ge.trans BB hb
  have nac : Hid (okP ⟨sg, st, o, l, f⟩ → Nb3 Aa Ba Ca wc.heap.size) := Lib.hid (fun h => TIn.nb h ta (Nat.le_refl _))
  have ncc : Hid (okP ⟨sg, st, o, l, f⟩ → Nb3 Ac Bc Cc wc.heap.size) := Lib.hid (fun h => TIn.nb h tc (Nat.le_refl _))
  have nca : Hid (okP ⟨sg, st, o, l, f⟩ → Nb3 Ac Bc Cc ba) := Lib.hid (fun h => nb3_of h tc frc hba)
  have hsc := hb.size
  clear hb c0 c1 fra frc
  have hwc := BB.size
  have Nc : Blk (wc.alloc (.cells #[.int .i64 0, .int .i64 0, .slice none 0 0, .slice none 0 0, .slice none 0 0] 32)) wc.heap.size 32 (csT 0 0 none 0 0 none 0 0 none 0 0) := Blk.new wc _ _
  go_upto_region 3 with (with_reducible refine store_r rfl (.tmp 9) (.tmp 31) rfl wc.heap.size rfl rfl Nc ?_)
  have hb3 : Below wc.heap.size wc ((wc.alloc (.cells #[.int .i64 0, .int .i64 0, .slice none 0 0, .slice none 0 0, .slice none 0 0] 32)).setRow wc.heap.size (csT sg st Ac mc pc Bc kc qc Cc nc rc)) := below_row (below1 _ _) (Nat.le_refl _) _
  have Kc : Blk ((wc.alloc (.cells #[.int .i64 0, .int .i64 0, .slice none 0 0, .slice none 0 0, .slice none 0 0] 32)).setRow wc.heap.size (csT sg st Ac mc pc Bc kc qc Cc nc rc)) wc.heap.size 32 (csT sg st Ac mc pc Bc kc qc Cc nc rc) := Nc.row _
  replace K0 := K0.later hb3
  replace ta := ta.later hb3
  replace Ka := Ka.later hb3
  replace tc := tc.later hb3
  replace BB := Ge.trans BB hb3
  clear hb3 Nc
  generalize (wc.alloc (.cells #[.int .i64 0, .int .i64 0, .slice none 0 0, .slice none 0 0, .slice none 0 0] 32)).setRow wc.heap.size (csT sg st Ac mc pc Bc kc qc Cc nc rc) = yc at *
  generalize wc.heap.size = bc at *
  obtain ⟨hma, hka, hna⟩ : ma ≤ maxLen ∧ ka ≤ maxLen ∧ na ≤ maxLen := by
    have hl : o.length ≤ 30 ∧ l.length ≤ 30 ∧ f.length ≤ 30 := by
      have h := HT.out
      cases s
      · rw [if_neg (by decide)] at h
        unfold zeroT at h
        injection h with h1 h2 h3 h4 h5
        subst h3 h4 h5
        exact ⟨by decide, by decide, by decide⟩
      · rw [if_pos rfl] at h
        unfold newT at h
        injection h with h1 h2 h3 h4 h5
        subst h3 h4 h5
        exact ⟨by simp, by simp, by simp⟩
    exact ⟨size_le ta.a hl.1, size_le ta.b hl.2.1, size_le ta.c hl.2.2⟩
  obtain ⟨hmc, hkc, hnc⟩ : mc ≤ maxLen ∧ kc ≤ maxLen ∧ nc ≤ maxLen := by
    rw [tc.a.len, tc.b.len, tc.c.len, ← ta.a.len, ← ta.b.len, ← ta.c.len]
    exact ⟨hma, hka, hna⟩
  obtain ⟨b, Hb⟩ : ∃ b, okT ⟨sg, st, o, l, f⟩ = b := ⟨_, rfl⟩
  have u0 : (er != er) = false := by simp
  have u1 : (b != b) = false := by cases b <;> rfl
  have I : Its w [(ba, 28, csT sg st Aa ma pa Ba ka qa Ca na ra), (bc, 32, csT sg st Ac mc pc Bc kc qc Cc nc rc)] [(.i64, Aa, ma, o), (.i64, Ba, ka, l), (.u64, Ca, na, f), (.i64, Ac, mc, o), (.i64, Bc, kc, l), (.u64, Cc, nc, f)] yc := ((((Its.nil BB).cons Kc).cons Ka).tcons tc).tcons ta
  have hne : Nonempty (In (Its w [(ba, 28, csT sg st Aa ma pa Ba ka qa Ca na ra), (bc, 32, csT sg st Ac mc pc Bc kc qc Cc nc rc)] [(.i64, Aa, ma, o), (.i64, Ba, ka, l), (.u64, Ca, na, f), (.i64, Ac, mc, o), (.i64, Bc, kc, l), (.u64, Cc, nc, f)])) := ⟨⟨_, I⟩⟩
  have fa0 : ∀ j : In (Its w [(ba, 28, csT sg st Aa ma pa Ba ka qa Ca na ra), (bc, 32, csT sg st Ac mc pc Bc kc qc Cc nc rc)] [(.i64, Aa, ma, o), (.i64, Ba, ka, l), (.u64, Ca, na, f), (.i64, Ac, mc, o), (.i64, Bc, kc, l), (.u64, Cc, nc, f)]), j.W.cell? ⟨ba, 0, none⟩ = some (.int .i64 sg) := fun j => (j.h.at_ 0 rfl).cell 0
  have fa1 : ∀ j : In (Its w [(ba, 28, csT sg st Aa ma pa Ba ka qa Ca na ra), (bc, 32, csT sg st Ac mc pc Bc kc qc Cc nc rc)] [(.i64, Aa, ma, o), (.i64, Ba, ka, l), (.u64, Ca, na, f), (.i64, Ac, mc, o), (.i64, Bc, kc, l), (.u64, Cc, nc, f)]), j.W.cell? ⟨ba, 1, none⟩ = some (.int .i64 st) := fun j => (j.h.at_ 0 rfl).cell 1
  have fa2 : ∀ j : In (Its w [(ba, 28, csT sg st Aa ma pa Ba ka qa Ca na ra), (bc, 32, csT sg st Ac mc pc Bc kc qc Cc nc rc)] [(.i64, Aa, ma, o), (.i64, Ba, ka, l), (.u64, Ca, na, f), (.i64, Ac, mc, o), (.i64, Bc, kc, l), (.u64, Cc, nc, f)]), j.W.cell? ⟨ba, 2, none⟩ = some (.slice Aa ma pa) := fun j => (j.h.at_ 0 rfl).cell 2
  have fa3 : ∀ j : In (Its w [(ba, 28, csT sg st Aa ma pa Ba ka qa Ca na ra), (bc, 32, csT sg st Ac mc pc Bc kc qc Cc nc rc)] [(.i64, Aa, ma, o), (.i64, Ba, ka, l), (.u64, Ca, na, f), (.i64, Ac, mc, o), (.i64, Bc, kc, l), (.u64, Cc, nc, f)]), j.W.cell? ⟨ba, 3, none⟩ = some (.slice Ba ka qa) := fun j => (j.h.at_ 0 rfl).cell 3
  have fa4 : ∀ j : In (Its w [(ba, 28, csT sg st Aa ma pa Ba ka qa Ca na ra), (bc, 32, csT sg st Ac mc pc Bc kc qc Cc nc rc)] [(.i64, Aa, ma, o), (.i64, Ba, ka, l), (.u64, Ca, na, f), (.i64, Ac, mc, o), (.i64, Bc, kc, l), (.u64, Cc, nc, f)]), j.W.cell? ⟨ba, 4, none⟩ = some (.slice Ca na ra) := fun j => (j.h.at_ 0 rfl).cell 4
  have fc0 : ∀ j : In (Its w [(ba, 28, csT sg st Aa ma pa Ba ka qa Ca na ra), (bc, 32, csT sg st Ac mc pc Bc kc qc Cc nc rc)] [(.i64, Aa, ma, o), (.i64, Ba, ka, l), (.u64, Ca, na, f), (.i64, Ac, mc, o), (.i64, Bc, kc, l), (.u64, Cc, nc, f)]), j.W.cell? ⟨bc, 0, none⟩ = some (.int .i64 sg) := fun j => (j.h.at_ 1 rfl).cell 0
  have fc1 : ∀ j : In (Its w [(ba, 28, csT sg st Aa ma pa Ba ka qa Ca na ra), (bc, 32, csT sg st Ac mc pc Bc kc qc Cc nc rc)] [(.i64, Aa, ma, o), (.i64, Ba, ka, l), (.u64, Ca, na, f), (.i64, Ac, mc, o), (.i64, Bc, kc, l), (.u64, Cc, nc, f)]), j.W.cell? ⟨bc, 1, none⟩ = some (.int .i64 st) := fun j => (j.h.at_ 1 rfl).cell 1
  have fc2 : ∀ j : In (Its w [(ba, 28, csT sg st Aa ma pa Ba ka qa Ca na ra), (bc, 32, csT sg st Ac mc pc Bc kc qc Cc nc rc)] [(.i64, Aa, ma, o), (.i64, Ba, ka, l), (.u64, Ca, na, f), (.i64, Ac, mc, o), (.i64, Bc, kc, l), (.u64, Cc, nc, f)]), j.W.cell? ⟨bc, 2, none⟩ = some (.slice Ac mc pc) := fun j => (j.h.at_ 1 rfl).cell 2
  have fc3 : ∀ j : In (Its w [(ba, 28, csT sg st Aa ma pa Ba ka qa Ca na ra), (bc, 32, csT sg st Ac mc pc Bc kc qc Cc nc rc)] [(.i64, Aa, ma, o), (.i64, Ba, ka, l), (.u64, Ca, na, f), (.i64, Ac, mc, o), (.i64, Bc, kc, l), (.u64, Cc, nc, f)]), j.W.cell? ⟨bc, 3, none⟩ = some (.slice Bc kc qc) := fun j => (j.h.at_ 1 rfl).cell 3
  have fc4 : ∀ j : In (Its w [(ba, 28, csT sg st Aa ma pa Ba ka qa Ca na ra), (bc, 32, csT sg st Ac mc pc Bc kc qc Cc nc rc)] [(.i64, Aa, ma, o), (.i64, Ba, ka, l), (.u64, Ca, na, f), (.i64, Ac, mc, o), (.i64, Bc, kc, l), (.u64, Cc, nc, f)]), j.W.cell? ⟨bc, 4, none⟩ = some (.slice Cc nc rc) := fun j => (j.h.at_ 1 rfl).cell 4
  have Q1 := Lib.hid (fun W (hi : Its w [(ba, 28, csT sg st Aa ma pa Ba ka qa Ca na ra), (bc, 32, csT sg st Ac mc pc Bc kc qc Cc nc rc)] [(.i64, Aa, ma, o), (.i64, Ba, ka, l), (.u64, Ca, na, f), (.i64, Ac, mc, o), (.i64, Bc, kc, l), (.u64, Cc, nc, f)] W) => right_is sg st Aa ma pa Ba ka qa Ca na ra o l f b W (hi.tab 0 rfl rfl rfl) hma hka hna mpa Hb)
  have Q2 := Lib.hid (fun W (hi : Its w [(ba, 28, csT sg st Aa ma pa Ba ka qa Ca na ra), (bc, 32, csT sg st Ac mc pc Bc kc qc Cc nc rc)] [(.i64, Aa, ma, o), (.i64, Ba, ka, l), (.u64, Ca, na, f), (.i64, Ac, mc, o), (.i64, Bc, kc, l), (.u64, Cc, nc, f)] W) => rright_is sg st Ac mc pc Bc kc qc Cc nc rc o l f b W (hi.tab 3 rfl rfl rfl) hmc hkc hnc Hb)
  have Q3 := Lib.hid (fun W (hi : Its w [(ba, 28, csT sg st Aa ma pa Ba ka qa Ca na ra), (bc, 32, csT sg st Ac mc pc Bc kc qc Cc nc rc)] [(.i64, Aa, ma, o), (.i64, Ba, ka, l), (.u64, Ca, na, f), (.i64, Ac, mc, o), (.i64, Bc, kc, l), (.u64, Cc, nc, f)] W) => same_yes sg st Aa ma pa Ba ka qa Ca na ra Ac mc pc Bc kc qc Cc nc rc o l f W (hi.tab 0 rfl rfl rfl) (hi.tab 3 rfl rfl rfl) hma hka hna)

  refine region_class (Its w [(ba, 28, csT sg st Aa ma pa Ba ka qa Ca na ra), (bc, 32, csT sg st Ac mc pc Bc kc qc Cc nc rc)] [(.i64, Aa, ma, o), (.i64, Ba, ka, l), (.u64, Ca, na, f), (.i64, Ac, mc, o), (.i64, Bc, kc, l), (.u64, Cc, nc, f)]) (by kernel_rfl) (by kernel_rfl) I.drawn ?_
  clear BB Ka Kc ta tc K0
  repeat (go_big_quiet_step (first
    | (go_at_call 13; with_reducible exact class_call _ (fun hi => its_ge hi (Q1.out _ hi)))
    | (go_at_call 12; with_reducible exact class_call _ (fun hi => its_ge hi (ref_any sg st Aa ma pa Ba ka qa Ca na ra _)))
    | (go_at_call 14; with_reducible exact class_call _ (fun hi => its_ge hi (Q2.out _ hi)))
    | (go_at_call 11; with_reducible exact class_call _ (fun hi => its_ge hi (Q3.out _ hi)))))
  refine wpQuiet_nil ?_
  rintro _ ⟨j, rfl⟩
  have I2 := j.h
  clear fa0 fa1 fa2 fa3 fa4 fc0 fc1 fc2 fc3 fc4 Q1 Q2 Q3 I hne u0 u1
  generalize j.W = w2 at *
  clear j
  have BB := I2.b
  have Ka : Blk w2 ba 28 (csT sg st Aa ma pa Ba ka qa Ca na ra) := I2.at_ 0 rfl
  have Kc : Blk w2 bc 32 (csT sg st Ac mc pc Bc kc qc Cc nc rc) := I2.at_ 1 rfl
  have ta := I2.tab 0 rfl rfl rfl
  have tc := I2.tab 3 rfl rfl rfl
  clear I2
  cases s
  case false =>
    obtain rfl : 1 = er := by have := HE.out; simpa using this
    go_wp2_with fail
    refine wp_loop_rounds 1 ?_
    rw [rounds_succ]
    by_cases hn0 : N = 0
    · subst hn0
      go_wp2_with fail
      refine (fixed_any _).mono ?_
      rintro e' w5 ⟨rfl, hb⟩
      go_wp2_with fail
      go_ret
      exact ⟨rfl, Ge.trans BB hb⟩
    · have hlt0 : (0 : Int) < (N : Int) := by omega
      have hN1 := HN.out
      unfold maxLen at hN1
      go_wp2_with fail
      refine (fixed_any _).mono ?_
      rintro e' w5 ⟨rfl, hb⟩
      go_wp2_with fail
      go_ret
      exact ⟨rfl, Ge.trans BB hb⟩
  case true =>
    obtain rfl : 0 = er := by have := HE.out; simpa using this
    have HK : Hid (okP ⟨sg, st, o, l, f⟩) := Lib.hid (by
      have h := HT.out
      rw [if_pos rfl] at h
      rw [← h]
      exact new_ok HS.out)
    have I0 : Hid (DoI w ba bc sg st Aa ma pa Ba ka qa Ca na ra Ac mc pc Bc kc qc Cc nc rc o l f w2) := Lib.hid ⟨BB, Ka, Kc, HK.out, ta, tc, mpa, ⟨naa.out HK.out, nca.out HK.out⟩, ⟨nac.out HK.out, ncc.out HK.out⟩⟩
    have HB : Hid (w.heap.size ≤ ba ∧ w.heap.size ≤ bc ∧ ba ≠ bc) := Lib.hid ⟨hwa, hwc, by omega⟩
    clear BB Ka Kc ta tc mpa naa nca nac ncc HK HS HT HE QA QC hba hsc hwa hwc Hb hma hka hna hmc hkc hnc
    go_wp2_with fail
    go_loopg [11] N (fun gk s11 wr => ∃ (i : Nat) (sg st : Int) (Aa : Option Addr) (ma pa : Nat) (Ba : Option Addr) (ka qa : Nat) (Ca : Option Addr) (na ra : Nat) (Ac : Option Addr) (mc pc : Nat) (Bc : Option Addr) (kc qc : Nat) (Cc : Option Addr) (nc rc : Nat) (o l f : List Int), i ≤ N ∧ gk = N - i ∧ s11 = .int .i64 (i : Nat) ∧ Hid (DoI w ba bc sg st Aa ma pa Ba ka qa Ca na ra Ac mc pc Bc kc qc Cc nc rc o l f wr))
    case atStart => exact ⟨0, _, _, _, _, _, _, _, _, _, _, _, _, _, _, _, _, _, _, _, _, _, _, _, by omega, rfl, rfl, I0⟩
    case round =>
      obtain ⟨i, sg, st, Aa, ma, pa, Ba, ka, qa, Ca, na, ra, Ac, mc, pc, Bc, kc, qc, Cc, nc, rc, o, l, f, hi, hgk, rfl, HI⟩ := hrel
      have HG := Lib.hid hgk
      clear hgk I0
      have hN1 := HN.out
      unfold maxLen at hN1
      by_cases hlt : i < N
      · have hlti : (i : Int) < (N : Int) := by omega
        by_cases h80 : (i : Int) < 80
        · obtain ⟨g, off, rfl, hgl, hops⟩ := HC.out (show 0 < N by omega)
          obtain ⟨cel0, cel1, cel2⟩ := hops i hlt
          obtain ⟨BB, Ka, Kc, hok, ta, tc, mpa, nba, nbc⟩ := HI.out
          clear HI hops
          go_wp2_with fail
          refine FreeC.wp_freeC (wl [some (.agg #[.int .i64 sg, .int .i64 st, .slice Aa ma pa, .slice Ba ka qa, .slice Ca na ra]), some (.agg #[.int .i64 sg, .int .i64 st, .slice Ac mc pc, .slice Bc kc qc, .slice Cc nc rc]), some (.slice (some ⟨g, off, none⟩) N c), some (.int .i64 (i : Nat)), some (.pointer (some ⟨g, off + i * 3, none⟩)), some (.agg #[.int .i64 (K i), .int .i64 (G i), .int .u64 (H i)]), none, none, none, none, some (.bool true), none, none, none, none, some (.bool true)]) (O8 wr (fun g => g = ba ∨ g = bc)) (by kernel_rfl) (by kernel_rfl) (O8.start _ _ _) ?_ ?_
          · refine ⟨?_, ?_, ?_, ?_, ?_, ?_, ?_, ?_, ?_, ?_, ?_, ?_, ?_, ?_, ?_, ?_, trivial⟩
            · intro listed A0 W hA hno hr K' hK
              have hsl := hA.size
              simp at hsl
              have hts : A0.tmps.size = 122 := hA.slots.trans rfl
              have e7 : A0.tmps[7]?.getD undef = .pointer (some ⟨ba, 0, none⟩) := slot_is ((hA.kept 7 (Free.not_dst (by kernel_rfl))).trans rfl)
              have c0 : W.cell? ⟨ba, 0, none⟩ = some (.int .i64 sg) := (Ka.later hA.c.belw).cell 0
              have c1 : W.cell? ⟨ba, 1, none⟩ = some (.int .i64 st) := (Ka.later hA.c.belw).cell 1
              have c2 : W.cell? ⟨ba, 2, none⟩ = some (.slice Aa ma pa) := (Ka.later hA.c.belw).cell 2
              have c3 : W.cell? ⟨ba, 3, none⟩ = some (.slice Ba ka qa) := (Ka.later hA.c.belw).cell 3
              have c4 : W.cell? ⟨ba, 4, none⟩ = some (.slice Ca na ra) := (Ka.later hA.c.belw).cell 4
              simp [go_sem, e7, c0, c1, c2, c3, c4]
              exact hK _ _ (hA.c.step 0 65 _ (by decide) (by decide) (Below.refl _ _)) rfl (fun j u _ _ hu => wl_any hu)
            · intro listed A0 W hA hno hr K' hK
              have hsl := hA.size
              simp at hsl
              have hts : A0.tmps.size = 122 := hA.slots.trans rfl
              have e9 : A0.tmps[9]?.getD undef = .pointer (some ⟨bc, 0, none⟩) := slot_is ((hA.kept 9 (Free.not_dst (by kernel_rfl))).trans rfl)
              have c0 : W.cell? ⟨bc, 0, none⟩ = some (.int .i64 sg) := (Kc.later hA.c.belw).cell 0
              have c1 : W.cell? ⟨bc, 1, none⟩ = some (.int .i64 st) := (Kc.later hA.c.belw).cell 1
              have c2 : W.cell? ⟨bc, 2, none⟩ = some (.slice Ac mc pc) := (Kc.later hA.c.belw).cell 2
              have c3 : W.cell? ⟨bc, 3, none⟩ = some (.slice Bc kc qc) := (Kc.later hA.c.belw).cell 3
              have c4 : W.cell? ⟨bc, 4, none⟩ = some (.slice Cc nc rc) := (Kc.later hA.c.belw).cell 4
              simp [go_sem, e9, c0, c1, c2, c3, c4]
              exact hK _ _ (hA.c.step 1 66 _ (by decide) (by decide) (Below.refl _ _)) rfl (fun j u _ _ hu => wl_any hu)
            · intro listed A0 W hA hno hr K' hK
              have hsl := hA.size
              simp at hsl
              have hts : A0.tmps.size = 122 := hA.slots.trans rfl
              have e2 : A0.tmps[2]?.getD undef = .slice (some ⟨g, off, none⟩) N c := slot_is ((hA.kept 2 (Free.not_dst (by kernel_rfl))).trans rfl)
              simp [go_sem, e2]
              exact hK _ _ (hA.c.step 2 67 _ (by decide) (by decide) (Below.refl _ _)) rfl (fun j u _ _ hu => wl_any hu)
            · intro listed A0 W hA hno hr K' hK
              have hsl := hA.size
              simp at hsl
              have hts : A0.tmps.size = 122 := hA.slots.trans rfl
              have e11 : A0.tmps[11]?.getD undef = .int .i64 (i : Nat) := slot_is ((hA.kept 11 (Free.not_dst (by kernel_rfl))).trans rfl)
              simp [go_sem, e11]
              exact hK _ _ (hA.c.step 3 68 _ (by decide) (by decide) (Below.refl _ _)) rfl (fun j u _ _ hu => wl_any hu)
            · intro listed A0 W hA hno hr K' hK
              have hsl := hA.size
              simp at hsl
              have hts : A0.tmps.size = 122 := hA.slots.trans rfl
              have e67 : A0.tmps[67]?.getD undef = .slice (some ⟨g, off, none⟩) N c := slot_is (hA.val 2 _ rfl (hr ⟨2, .data⟩ (by simp) rfl))
              have e68 : A0.tmps[68]?.getD undef = .int .i64 (i : Nat) := slot_is (hA.val 3 _ rfl (hr ⟨3, .data⟩ (by simp) rfl))
              simp [go_sem, e67, e68, hlti]
              exact hK _ _ (hA.c.step 4 69 _ (by decide) (by decide) (Below.refl _ _)) rfl (fun j u _ _ hu => wl_any hu)
            · intro listed A0 W hA hno hr K' hK
              have hsl := hA.size
              simp at hsl
              have hts : A0.tmps.size = 122 := hA.slots.trans rfl
              have e69 : A0.tmps[69]?.getD undef = .pointer (some ⟨g, off + i * 3, none⟩) := slot_is (hA.val 4 _ rfl (hr ⟨4, .data⟩ (by simp) rfl))
              have c0 : W.cell? ⟨g, off + i * 3, none⟩ = some (.int .i64 (K i)) := ((Ge.trans BB hA.c.belw).cell (p := ⟨g, off + i * 3, none⟩) hgl).trans cel0
              have c1 : W.cell? ⟨g, off + i * 3 + 1, none⟩ = some (.int .i64 (G i)) := ((Ge.trans BB hA.c.belw).cell (p := ⟨g, off + i * 3 + 1, none⟩) hgl).trans cel1
              have c2 : W.cell? ⟨g, off + i * 3 + 2, none⟩ = some (.int .u64 (H i)) := ((Ge.trans BB hA.c.belw).cell (p := ⟨g, off + i * 3 + 2, none⟩) hgl).trans cel2
              simp [go_sem, e69, c0, c1, c2]
              exact hK _ _ (hA.c.step 5 70 _ (by decide) (by decide) (Below.refl _ _)) rfl (fun j u _ _ hu => wl_any hu)
            · intro listed A0 W hA hno hr K' hK
              have hsl := hA.size
              simp at hsl
              have hts : A0.tmps.size = 122 := hA.slots.trans rfl
              have e65 : A0.tmps[65]?.getD undef = .agg #[.int .i64 sg, .int .i64 st, .slice Aa ma pa, .slice Ba ka qa, .slice Ca na ra] := slot_is (hA.val 0 _ rfl (hr ⟨0, .data⟩ (by simp) rfl))
              have e66 : A0.tmps[66]?.getD undef = .agg #[.int .i64 sg, .int .i64 st, .slice Ac mc pc, .slice Bc kc qc, .slice Cc nc rc] := slot_is (hA.val 1 _ rfl (hr ⟨1, .data⟩ (by simp) rfl))
              have e70 : A0.tmps[70]?.getD undef = .agg #[.int .i64 (K i), .int .i64 (G i), .int .u64 (H i)] := slot_is (hA.val 5 _ rfl (hr ⟨5, .data⟩ (by simp) rfl))
              simp [go_sem, e65, e66, e70]
              refine (do_any sg st Aa ma pa Ba ka qa Ca na ra Ac mc pc Bc kc qc Cc nc rc o l f (K i) (G i) (H i) W (ta.later hA.c.belw) (tc.later hA.c.belw) hok mpa).mono ?_
              rintro e' w' ⟨sgn, stn, Au, mu, pu, Bu, ku, qu, Cu, nu, ru, Av, mv, pv, Bv, kv, qv, Cv, nv, rv, on, ln, fn, rfl, ok', tu', tv', mp', nb', hb⟩
              refine hK (tup3 _ _) w' (hA.c.call (by omega) (not_listed (by omega) hno) (by omega) ⟨sgn, stn, Au, mu, pu, Bu, ku, qu, Cu, nu, ru, Av, mv, pv, Bv, kv, qv, Cv, nv, rv, on, ln, fn, rfl, rfl, ok', tu', tv', mp', fun g' hg' => ?_⟩ hb) trivial (fun j u _ _ hu => wl_any hu)
              rcases hg' with (rfl | rfl) | ⟨hg1, hg2⟩
              · exact ⟨(nb' _ (Nat.lt_of_lt_of_le Ka.lt hA.c.belw.size)).1 nba.1, (nb' _ (Nat.lt_of_lt_of_le Ka.lt hA.c.belw.size)).2 nba.2⟩
              · exact ⟨(nb' _ (Nat.lt_of_lt_of_le Kc.lt hA.c.belw.size)).1 nbc.1, (nb' _ (Nat.lt_of_lt_of_le Kc.lt hA.c.belw.size)).2 nbc.2⟩
              · exact ⟨(nb' _ hg2).1 (TIn.nb hok ta hg1), (nb' _ hg2).2 (TIn.nb hok tc hg1)⟩
            · intro listed A0 W hA hno hr K' hK
              have hsl := hA.size
              simp at hsl
              have hts : A0.tmps.size = 122 := hA.slots.trans rfl
              obtain ⟨u, v, hO⟩ := hA.c
              have h6 := hr ⟨6, .data⟩ (by simp) rfl
              have e71 := slot_is (hO.d6 h6).1
              simp [go_sem, e71]
              exact hK _ _ ⟨u, v, hO.move h6 (by omega) (by omega)⟩ trivial (fun j u _ _ hu => wl_any hu)
            · intro listed A0 W hA hno hr K' hK
              have hsl := hA.size
              simp at hsl
              have hts : A0.tmps.size = 122 := hA.slots.trans rfl
              obtain ⟨u, v, hO⟩ := hA.c
              have h7 := hr ⟨7, .data⟩ (by simp) rfl
              have e64 := slot_is (hO.d7 h7).2
              unfold tup3 at e64
              simp [go_sem, e64]
              exact hK _ _ ⟨u, v, hO.part8 h7 (by omega) (by omega)⟩ trivial (fun j u _ _ hu => wl_any hu)
            · intro listed A0 W hA hno hr K' hK
              have hsl := hA.size
              simp at hsl
              have hts : A0.tmps.size = 122 := hA.slots.trans rfl
              obtain ⟨u, v, hO⟩ := hA.c
              have h7 := hr ⟨7, .data⟩ (by simp) rfl
              have e64 := slot_is (hO.d7 h7).2
              unfold tup3 at e64
              simp [go_sem, e64]
              exact hK _ _ ⟨u, v, hO.part9 h7 (by omega) (by omega)⟩ trivial (fun j u _ _ hu => wl_any hu)
            · intro listed A0 W hA hno hr K' hK
              have hsl := hA.size
              simp at hsl
              have hts : A0.tmps.size = 122 := hA.slots.trans rfl
              obtain ⟨u, v, hO⟩ := hA.c
              have h7 := hr ⟨7, .data⟩ (by simp) rfl
              have e64 := slot_is (hO.d7 h7).2
              unfold tup3 at e64
              simp [go_sem, e64]
              exact hK _ _ ⟨u, v, hO.step 10 74 _ (by decide) (by decide) (Below.refl _ _)⟩ rfl (fun j u _ _ hu => wl_any hu)
            · intro listed A0 W hA hno hr K' hK
              have hsl := hA.size
              simp at hsl
              have hts : A0.tmps.size = 122 := hA.slots.trans rfl
              obtain ⟨u, v, hO⟩ := hA.c
              simp [go_sem, hv]
              exact hK _ _ ⟨u, v, hO.al11 (by omega) (not_listed (by omega) hno) (by omega) _ rfl⟩ trivial (fun j u _ _ hu => wl_any hu)
            · intro listed A0 W hA hno hr K' hK
              have hsl := hA.size
              simp at hsl
              have hts : A0.tmps.size = 122 := hA.slots.trans rfl
              obtain ⟨u, v, hO⟩ := hA.c
              simp [go_sem, hv2]
              exact hK _ _ ⟨u, v, hO.al12 (by omega) (not_listed (by omega) hno) (by omega) _ rfl⟩ trivial (fun j u _ _ hu => wl_any hu)
            · intro listed A0 W hA hno hr K' hK
              have hsl := hA.size
              simp at hsl
              have hts : A0.tmps.size = 122 := hA.slots.trans rfl
              obtain ⟨u, v, hO⟩ := hA.c
              have h8 := hr ⟨8, .data⟩ (by simp) rfl
              have h11 := hr ⟨11, .data⟩ (by simp) rfl
              have h7 := (hO.d8 h8).1
              have h6 := (hO.d7 h7).1
              have e72 := (hO.d8 h8).2
              obtain ⟨sgn, stn, Au, mu, pu, Bu, ku, qu, Cu, nu, ru, Av, mv, pv, Bv, kv, qv, Cv, nv, rv, on, ln, fn, eu, ev, _⟩ := (hO.d6 h6).2
              obtain ⟨b, vs, e12, hbb, hvs, hB, _⟩ := hO.k11 h11
              refine wp_store_row _ (.tmp 12) (.tmp 72) rfl b (csT sgn stn Au mu pu Bu ku qu Cu nu ru) e12 (by have h1 := e72; rw [eu] at h1; simpa [Act.eval, csT] using h1) _ _ hB info_t hvs (csT_one _ _ _ _ _ _ _ _ _ _ _) ?_
              exact hK undef _ ⟨u, v, hO.st13 (by omega) h6 h11 e12 hbb hB rfl eu⟩ trivial (fun j u _ _ hu => wl_any hu)
            · intro listed A0 W hA hno hr K' hK
              have hsl := hA.size
              simp at hsl
              have hts : A0.tmps.size = 122 := hA.slots.trans rfl
              obtain ⟨u, v, hO⟩ := hA.c
              have h8 := hr ⟨9, .data⟩ (by simp) rfl
              have h11 := hr ⟨12, .data⟩ (by simp) rfl
              have h7 := (hO.d9 h8).1
              have h6 := (hO.d7 h7).1
              have e72 := (hO.d9 h8).2
              obtain ⟨sgn, stn, Au, mu, pu, Bu, ku, qu, Cu, nu, ru, Av, mv, pv, Bv, kv, qv, Cv, nv, rv, on, ln, fn, eu, ev, _⟩ := (hO.d6 h6).2
              obtain ⟨b, vs, e12, hbb, hvs, hB, _⟩ := hO.k12 h11
              refine wp_store_row _ (.tmp 13) (.tmp 73) rfl b (csT sgn stn Av mv pv Bv kv qv Cv nv rv) e12 (by have h1 := e72; rw [ev] at h1; simpa [Act.eval, csT] using h1) _ _ hB info_r hvs (csT_one _ _ _ _ _ _ _ _ _ _ _) ?_
              exact hK undef _ ⟨u, v, hO.st14 (by omega) h6 h11 e12 hbb hB rfl ev⟩ trivial (fun j u _ _ hu => wl_any hu)
            · intro listed A0 W hA hno hr K' hK
              have hsl := hA.size
              simp at hsl
              have hts : A0.tmps.size = 122 := hA.slots.trans rfl
              have e74 : A0.tmps[74]?.getD undef = .bool true := slot_is (hA.val 10 _ rfl (hr ⟨10, .data⟩ (by simp) rfl))
              simp [go_sem, e74]
              exact hK _ _ (hA.c.step 15 14 _ (by decide) (by decide) (Below.refl _ _)) rfl (fun j u _ _ hu => wl_any hu)
          · intro A0 W hA
            have s14 : A0.tmps.getD 14 undef = .bool true := hA.val 15 _ rfl rfl
            have hde := hA.defers
            obtain ⟨y, hy, ee⟩ := fr8 rfl hA.slots (fun d hd => hA.kept d (kept_of (dsts := [65, 66, 67, 68, 69, 70, 71, 64, 72, 73, 74, 12, 13, 14]) (by kernel_rfl) hd))
            obtain ⟨u, v, hO⟩ := hA.c
            obtain ⟨sgn, stn, Au, mu, pu, Bu, ku, qu, Cu, nu, ru, Av, mv, pv, Bv, kv, qv, Cv, nv, rv, on, ln, fn, eu, ev, okn, tu, tv, mpu, hnb⟩ := (hO.d6 rfl).2
            obtain ⟨bu, vs, s12, hbu, _, Ku, eu2⟩ := hO.k11 rfl
            obtain ⟨bv, vs', s13, hbv, _, Kv, ev2⟩ := hO.k12 rfl
            obtain rfl : vs = csT sgn stn Au mu pu Bu ku qu Cu nu ru := by have h1 := eu2 rfl; rw [eu] at h1; injection h1 with h1; exact h1.symm
            obtain rfl : vs' = csT sgn stn Av mv pv Bv kv qv Cv nv rv := by have h1 := ev2 rfl; rw [ev] at h1; injection h1 with h1; exact h1.symm
            have nb7 := hnb ba (.inl (.inl rfl))
            have nb9 := hnb bc (.inl (.inr rfl))
            have hau := Nat.lt_of_lt_of_le Ka.lt hbu
            have hcu := Nat.lt_of_lt_of_le Kc.lt hbu
            have hav := Nat.lt_of_lt_of_le Ka.lt hbv
            have hcv := Nat.lt_of_lt_of_le Kc.lt hbv
            replace BB := Ge.trans BB hO.b
            replace Ka := Ka.later hO.b
            replace Kc := Kc.later hO.b
            obtain ⟨hmu, hku, hnu⟩ := (ok_full okn tu).2.2.2.2
            have HK := Lib.hid okn
            have HNB := Lib.hid (And.intro nb7 nb9)
            clear hA hO hnb eu ev eu2 ev2 hbu hbv ta tc nba nbc mpa hok okn nb7 nb9
            obtain ⟨tm, de⟩ := A0
            simp only at s12 s13 s14 ee hde hy
            have t12 := (hy 12).symm.trans s12
            have t13 := (hy 13).symm.trans s13
            have t14 := (hy 14).symm.trans s14
            rw [t12, t13, t14] at ee
            clear hy s12 s13 s14 t12 t13 t14
            subst ee hde
            have e0u : W.cell? ⟨bu, 0, none⟩ = some (.int .i64 sgn) := Ku.cell 0
            have e1u : W.cell? ⟨bu, 1, none⟩ = some (.int .i64 stn) := Ku.cell 1
            have e2u : W.cell? ⟨bu, 2, none⟩ = some (.slice Au mu pu) := Ku.cell 2
            have e3u : W.cell? ⟨bu, 3, none⟩ = some (.slice Bu ku qu) := Ku.cell 3
            have e4u : W.cell? ⟨bu, 4, none⟩ = some (.slice Cu nu ru) := Ku.cell 4
            go_wp2_with (first | (with_reducible refine load_t rfl (.tmp 7) rfl ba rfl Ka ?_) | (with_reducible refine load_r rfl (.tmp 9) rfl bc rfl Kc ?_) | (with_reducible refine load_t rfl (.tmp 12) rfl bu rfl Ku ?_) | (with_reducible refine load_r rfl (.tmp 13) rfl bv rfl Kv ?_))
            clear e0u e1u e2u e3u e4u
            refine (right_is sgn stn Au mu pu Bu ku qu Cu nu ru on ln fn true _ tu hmu hku hnu mpu ((okT_iff _).2 HK.out)).mono ?_
            rintro e' z2 ⟨rfl, hb⟩
            replace Ka := Ka.later hb
            replace Kc := Kc.later hb
            replace Ku := Ku.later hb
            replace Kv := Kv.later hb
            replace tu := tu.later hb
            replace tv := tv.later hb
            replace BB := Ge.trans BB hb
            clear hb
            go_upto_region 12 with (first
              | (with_reducible refine load_t rfl (.tmp 12) rfl bu rfl Ku ?_)
              | (with_reducible refine store_t rfl (.tmp 7) (.tmp 82) rfl ba rfl rfl Ka ?_))
            replace BB := below_row BB HB.out.1 (csT sgn stn Au mu pu Bu ku qu Cu nu ru)
            replace Ka := Ka.row (csT sgn stn Au mu pu Bu ku qu Cu nu ru)
            replace Kc := Kc.far (show ba ≠ bc from HB.out.2.2) (csT sgn stn Au mu pu Bu ku qu Cu nu ru)
            replace Ku := Ku.far (show ba ≠ bu by omega) (csT sgn stn Au mu pu Bu ku qu Cu nu ru)
            replace Kv := Kv.far (show ba ≠ bv by omega) (csT sgn stn Au mu pu Bu ku qu Cu nu ru)
            replace tu := tu.rowN HNB.out.1.1 (csT sgn stn Au mu pu Bu ku qu Cu nu ru)
            replace tv := tv.rowN HNB.out.1.2 (csT sgn stn Au mu pu Bu ku qu Cu nu ru)
            generalize z2.setRow ba (csT sgn stn Au mu pu Bu ku qu Cu nu ru) = z3 at *
            go_wp2_with (first
              | (with_reducible refine load_r rfl (.tmp 13) rfl bv rfl Kv ?_)
              | (with_reducible refine store_r rfl (.tmp 9) (.tmp 83) rfl bc rfl rfl Kc ?_))
            replace BB := below_row BB HB.out.2.1 (csT sgn stn Av mv pv Bv kv qv Cv nv rv)
            replace Kc := Kc.row (csT sgn stn Av mv pv Bv kv qv Cv nv rv)
            replace Ka := Ka.far (show bc ≠ ba from Ne.symm HB.out.2.2) (csT sgn stn Av mv pv Bv kv qv Cv nv rv)
            replace tu := tu.rowN HNB.out.2.1 (csT sgn stn Av mv pv Bv kv qv Cv nv rv)
            replace tv := tv.rowN HNB.out.2.2 (csT sgn stn Av mv pv Bv kv qv Cv nv rv)
            clear Ku Kv hau hcu hav hcv
            generalize z3.setRow bc (csT sgn stn Av mv pv Bv kv qv Cv nv rv) = z4 at *
            obtain ⟨R, HR⟩ : ∃ R, Hid (roomT ⟨sgn, stn, on, ln, fn⟩ = R) := ⟨_, Lib.hid rfl⟩
            obtain ⟨U, HU⟩ : ∃ R, Hid (usedT ⟨sgn, stn, on, ln, fn⟩ = R) := ⟨_, Lib.hid rfl⟩
            obtain ⟨L1, HL⟩ : ∃ R, Hid (lenT ⟨sgn, stn, on, ln, fn⟩ (G i) = R) := ⟨_, Lib.hid rfl⟩
            have hsg : 0 ≤ sgn ∧ sgn ≤ 16 := (ok_bd HK.out).1
            have hlo : ln.length = on.length := HK.out.2.2.2.2.2.2.1
            have hfl : (freeT ⟨sgn, stn, on, ln, fn⟩).length ≤ 30 := by have := (ok_bounds HK.out).f; simp only at this; omega
            have hmv : mv ≤ maxLen := (ok_full HK.out tv).2.2.2.2.1
            have I5 : Its w [(ba, 28, csT sgn stn Au mu pu Bu ku qu Cu nu ru), (bc, 32, csT sgn stn Av mv pv Bv kv qv Cv nv rv)] [(.i64, Au, mu, on), (.i64, Bu, ku, ln), (.u64, Cu, nu, fn), (.i64, Av, mv, on), (.i64, Bv, kv, ln), (.u64, Cv, nv, fn)] z4 := ((((Its.nil BB).cons Kc).cons Ka).tcons tv).tcons tu
            clear BB Ka Kc tu tv
            go_wp2_with fail
            refine wp_its [.is (.agg #[.int .i64 (sgn), .int .i64 (stn), .slice Au mu pu, .slice Bu ku qu, .slice Cu nu ru]),
    .lst (freeT ⟨sgn, stn, on, ln, fn⟩),
    .is (.agg #[.int .i64 (sgn), .int .i64 (stn), .slice Av mv pv, .slice Bv kv qv, .slice Cv nv rv]),
    .lst (freeT ⟨sgn, stn, on, ln, fn⟩),
    .is (.bool true),
    .is (.bool false),
    .is (.bool false),
    .is (.agg #[.int .i64 (sgn), .int .i64 (stn), .slice Au mu pu, .slice Bu ku qu, .slice Cu nu ru]),
    .is (.int .i64 (R)),
    .is (.agg #[.int .i64 (sgn), .int .i64 (stn), .slice Av mv pv, .slice Bv kv qv, .slice Cv nv rv]),
    .is (.int .i64 (R)),
    .is (.bool false),
    .is (.bool false),
    .is (.bool false),
    .is (.agg #[.int .i64 (sgn), .int .i64 (stn), .slice Au mu pu, .slice Bu ku qu, .slice Cu nu ru]),
    .is (.int .i64 (U)),
    .is (.agg #[.int .i64 (sgn), .int .i64 (stn), .slice Av mv pv, .slice Bv kv qv, .slice Cv nv rv]),
    .is (.int .i64 (U)),
    .is (.bool false),
    .is (.bool false),
    .is (.bool false),
    .is (.agg #[.int .i64 (sgn), .int .i64 (stn), .slice Au mu pu, .slice Bu ku qu, .slice Cu nu ru]),
    .is (.slice (some ⟨g, off, none⟩) N c),
    .is (.int .i64 ((i : Nat))),
    .is (.pointer (some ⟨g, off + i * 3, none⟩)),
    .is (.pointer (some ⟨g, off + i * 3 + 1, none⟩)),
    .is (.int .i64 (G i)),
    .is (.int .i64 (L1)),
    .is (.agg #[.int .i64 (sgn), .int .i64 (stn), .slice Av mv pv, .slice Bv kv qv, .slice Cv nv rv]),
    .is (.slice (some ⟨g, off, none⟩) N c),
    .is (.int .i64 ((i : Nat))),
    .is (.pointer (some ⟨g, off + i * 3, none⟩)),
    .is (.pointer (some ⟨g, off + i * 3 + 1, none⟩)),
    .is (.int .i64 (G i)),
    .is (.int .i64 (L1)),
    .is (.bool false),
    .is (.bool false)] [(ba, 28, csT sgn stn Au mu pu Bu ku qu Cu nu ru), (bc, 32, csT sgn stn Av mv pv Bv kv qv Cv nv rv)] [(.i64, Au, mu, on), (.i64, Bu, ku, ln), (.u64, Cu, nu, fn), (.i64, Av, mv, on), (.i64, Bv, kv, ln), (.u64, Cv, nv, fn)] (by kernel_rfl) (by kernel_rfl) I5 ?_ ?_
            · refine ⟨?_, ?_, ?_, ?_, ?_, ?_, ?_, ?_, ?_, ?_, ?_, ?_, ?_, ?_, ?_, ?_, ?_, ?_, ?_, ?_, ?_, ?_, ?_, ?_, ?_, ?_, ?_, ?_, ?_, ?_, ?_, ?_, ?_, ?_, ?_, ?_, ?_, trivial⟩
              · intro listed A0 W hA hr K hK
                have e7 : A0.tmps[7]?.getD undef = .pointer (some ⟨ba, 0, none⟩) := slot_is ((hA.kept 7 (Free.not_dst (by kernel_rfl))).trans rfl)
                have f0 : W.cell? ⟨ba, 0, none⟩ = some (.int .i64 (sgn)) := (hA.c.at_ 0 rfl).cell 0
                have f1 : W.cell? ⟨ba, 1, none⟩ = some (.int .i64 (stn)) := (hA.c.at_ 0 rfl).cell 1
                have f2 : W.cell? ⟨ba, 2, none⟩ = some (.slice Au mu pu) := (hA.c.at_ 0 rfl).cell 2
                have f3 : W.cell? ⟨ba, 3, none⟩ = some (.slice Bu ku qu) := (hA.c.at_ 0 rfl).cell 3
                have f4 : W.cell? ⟨ba, 4, none⟩ = some (.slice Cu nu ru) := (hA.c.at_ 0 rfl).cell 4
                rw [if_pos (FreeG.wanted_plain rfl)]
                simp [go_sem, e7, f0, f1, f2, f3, f4]
                exact hK _ _ (Below.refl _ _) rfl
              · intro listed A0 W hA hr K hK
                have e84 : A0.tmps[84]?.getD undef = .agg #[.int .i64 (sgn), .int .i64 (stn), .slice Au mu pu, .slice Bu ku qu, .slice Cu nu ru] := slot_is (hA.val 0 _ rfl (hr ⟨0, .data⟩ (by simp) rfl))
                rw [if_pos (FreeG.wanted_plain rfl)]
                simp [go_sem, e84]
                refine (tfree_any sgn stn Au mu pu Bu ku qu Cu nu ru on ln fn _ (hA.c.tab 0 rfl rfl rfl) hmu hsg).mono ?_
                rintro e' w' ⟨A1, m1, p1, rfl, h1, hb⟩
                exact hK _ _ hb ⟨A1, m1, p1, rfl, h1⟩
              · intro listed A0 W hA hr K hK
                have e9 : A0.tmps[9]?.getD undef = .pointer (some ⟨bc, 0, none⟩) := slot_is ((hA.kept 9 (Free.not_dst (by kernel_rfl))).trans rfl)
                have f0 : W.cell? ⟨bc, 0, none⟩ = some (.int .i64 (sgn)) := (hA.c.at_ 1 rfl).cell 0
                have f1 : W.cell? ⟨bc, 1, none⟩ = some (.int .i64 (stn)) := (hA.c.at_ 1 rfl).cell 1
                have f2 : W.cell? ⟨bc, 2, none⟩ = some (.slice Av mv pv) := (hA.c.at_ 1 rfl).cell 2
                have f3 : W.cell? ⟨bc, 3, none⟩ = some (.slice Bv kv qv) := (hA.c.at_ 1 rfl).cell 3
                have f4 : W.cell? ⟨bc, 4, none⟩ = some (.slice Cv nv rv) := (hA.c.at_ 1 rfl).cell 4
                rw [if_pos (FreeG.wanted_plain rfl)]
                simp [go_sem, e9, f0, f1, f2, f3, f4]
                exact hK _ _ (Below.refl _ _) rfl
              · intro listed A0 W hA hr K hK
                have e86 : A0.tmps[86]?.getD undef = .agg #[.int .i64 (sgn), .int .i64 (stn), .slice Av mv pv, .slice Bv kv qv, .slice Cv nv rv] := slot_is (hA.val 2 _ rfl (hr ⟨2, .data⟩ (by simp) rfl))
                rw [if_pos (FreeG.wanted_plain rfl)]
                simp [go_sem, e86]
                refine (rfree_any sgn stn Av mv pv Bv kv qv Cv nv rv on ln fn _ (hA.c.tab 3 rfl rfl rfl) hmv hsg).mono ?_
                rintro e' w' ⟨A1, m1, p1, rfl, h1, hb⟩
                exact hK _ _ hb ⟨A1, m1, p1, rfl, h1⟩
              · intro listed A0 W hA hr K hK
                have e85 : ∃ A m p, A0.tmps[85]?.getD undef = .slice A m p ∧ Sl .i64 W A m (freeT ⟨sgn, stn, on, ln, fn⟩) := slot_lst (hA.val 1 _ rfl (hr ⟨1, .data⟩ (by simp) rfl))
                have e87 : ∃ A m p, A0.tmps[87]?.getD undef = .slice A m p ∧ Sl .i64 W A m (freeT ⟨sgn, stn, on, ln, fn⟩) := slot_lst (hA.val 3 _ rfl (hr ⟨3, .data⟩ (by simp) rfl))
                rw [if_pos (FreeG.wanted_plain rfl)]
                obtain ⟨A85, m85, p85, h85, s85⟩ := e85
                obtain ⟨A87, m87, p87, h87, s87⟩ := e87
                simp [go_sem, h85, h87]
                refine (ints_yes A85 m85 p85 A87 m87 p87 (freeT ⟨sgn, stn, on, ln, fn⟩) _ s85 s87 (size_le s85 hfl)).mono ?_
                rintro e' w' ⟨rfl, hb⟩
                exact hK _ _ hb rfl
              · intro listed A0 W hA hr K hK
                have e88 : A0.tmps[88]?.getD undef = .bool true := slot_is (hA.val 4 _ rfl (hr ⟨4, .data⟩ (by simp) rfl))
                rw [if_pos (FreeG.wanted_plain rfl)]
                simp [go_sem, e88]
                exact hK _ _ (Below.refl _ _) rfl
              · intro listed A0 W hA hr K hK
                have e89 : A0.tmps[89]?.getD undef = .bool false := slot_is (hA.val 5 _ rfl (hr ⟨5, .data⟩ (by simp) rfl))
                rw [if_pos (FreeG.wanted_plain rfl)]
                simp [go_sem, e89]
                exact hK _ _ (Below.refl _ _) rfl
              · intro listed A0 W hA hr K hK
                have eg : A0.tmps[90]?.getD undef = .bool false := slot_is (hA.val 6 _ rfl (hr ⟨6, .guard⟩ (by simp) rfl))
                have e7 : A0.tmps[7]?.getD undef = .pointer (some ⟨ba, 0, none⟩) := slot_is ((hA.kept 7 (Free.not_dst (by kernel_rfl))).trans rfl)
                have f0 : W.cell? ⟨ba, 0, none⟩ = some (.int .i64 (sgn)) := (hA.c.at_ 0 rfl).cell 0
                have f1 : W.cell? ⟨ba, 1, none⟩ = some (.int .i64 (stn)) := (hA.c.at_ 0 rfl).cell 1
                have f2 : W.cell? ⟨ba, 2, none⟩ = some (.slice Au mu pu) := (hA.c.at_ 0 rfl).cell 2
                have f3 : W.cell? ⟨ba, 3, none⟩ = some (.slice Bu ku qu) := (hA.c.at_ 0 rfl).cell 3
                have f4 : W.cell? ⟨ba, 4, none⟩ = some (.slice Cu nu ru) := (hA.c.at_ 0 rfl).cell 4
                rw [if_pos (FreeG.wanted_yes rfl rfl rfl eg)]
                simp [go_sem, e7, f0, f1, f2, f3, f4]
                exact hK _ _ (Below.refl _ _) rfl
              · intro listed A0 W hA hr K hK
                have eg : A0.tmps[90]?.getD undef = .bool false := slot_is (hA.val 6 _ rfl (hr ⟨6, .guard⟩ (by simp) rfl))
                have e91 : A0.tmps[91]?.getD undef = .agg #[.int .i64 (sgn), .int .i64 (stn), .slice Au mu pu, .slice Bu ku qu, .slice Cu nu ru] := slot_is (hA.val 7 _ rfl (hr ⟨7, .data⟩ (by simp) rfl))
                rw [if_pos (FreeG.wanted_yes rfl rfl rfl eg)]
                simp [go_sem, e91]
                refine (room_is sgn stn Au mu pu Bu ku qu Cu nu ru on ln fn R _ (hA.c.tab 0 rfl rfl rfl) HK.out HR.out).mono ?_
                rintro e' w' ⟨rfl, hb⟩
                exact hK _ _ hb rfl
              · intro listed A0 W hA hr K hK
                have eg : A0.tmps[90]?.getD undef = .bool false := slot_is (hA.val 6 _ rfl (hr ⟨6, .guard⟩ (by simp) rfl))
                have e9 : A0.tmps[9]?.getD undef = .pointer (some ⟨bc, 0, none⟩) := slot_is ((hA.kept 9 (Free.not_dst (by kernel_rfl))).trans rfl)
                have f0 : W.cell? ⟨bc, 0, none⟩ = some (.int .i64 (sgn)) := (hA.c.at_ 1 rfl).cell 0
                have f1 : W.cell? ⟨bc, 1, none⟩ = some (.int .i64 (stn)) := (hA.c.at_ 1 rfl).cell 1
                have f2 : W.cell? ⟨bc, 2, none⟩ = some (.slice Av mv pv) := (hA.c.at_ 1 rfl).cell 2
                have f3 : W.cell? ⟨bc, 3, none⟩ = some (.slice Bv kv qv) := (hA.c.at_ 1 rfl).cell 3
                have f4 : W.cell? ⟨bc, 4, none⟩ = some (.slice Cv nv rv) := (hA.c.at_ 1 rfl).cell 4
                rw [if_pos (FreeG.wanted_yes rfl rfl rfl eg)]
                simp [go_sem, e9, f0, f1, f2, f3, f4]
                exact hK _ _ (Below.refl _ _) rfl
              · intro listed A0 W hA hr K hK
                have eg : A0.tmps[90]?.getD undef = .bool false := slot_is (hA.val 6 _ rfl (hr ⟨6, .guard⟩ (by simp) rfl))
                have e93 : A0.tmps[93]?.getD undef = .agg #[.int .i64 (sgn), .int .i64 (stn), .slice Av mv pv, .slice Bv kv qv, .slice Cv nv rv] := slot_is (hA.val 9 _ rfl (hr ⟨9, .data⟩ (by simp) rfl))
                rw [if_pos (FreeG.wanted_yes rfl rfl rfl eg)]
                simp [go_sem, e93]
                refine (rroom_is sgn stn Av mv pv Bv kv qv Cv nv rv on ln fn R _ (hA.c.tab 3 rfl rfl rfl) HK.out HR.out).mono ?_
                rintro e' w' ⟨rfl, hb⟩
                exact hK _ _ hb rfl
              · intro listed A0 W hA hr K hK
                have eg : A0.tmps[90]?.getD undef = .bool false := slot_is (hA.val 6 _ rfl (hr ⟨6, .guard⟩ (by simp) rfl))
                have e92 : A0.tmps[92]?.getD undef = .int .i64 (R) := slot_is (hA.val 8 _ rfl (hr ⟨8, .data⟩ (by simp) rfl))
                have e94 : A0.tmps[94]?.getD undef = .int .i64 (R) := slot_is (hA.val 10 _ rfl (hr ⟨10, .data⟩ (by simp) rfl))
                rw [if_pos (FreeG.wanted_yes rfl rfl rfl eg)]
                simp [go_sem, e92, e94]
                exact hK _ _ (Below.refl _ _) rfl
              · intro listed A0 W hA hr K hK
                have e90 : A0.tmps[90]?.getD undef = .bool false := slot_is (hA.val 6 _ rfl (hr ⟨6, .data⟩ (by simp) rfl))
                have e95 : A0.tmps[95]?.getD undef = .bool false := slot_is (hA.val 11 _ rfl (hr ⟨11, .data⟩ (by simp) rfl))
                rw [if_pos (FreeG.wanted_plain rfl)]
                simp [go_sem, e90, e95]
                exact hK _ _ (Below.refl _ _) rfl
              · intro listed A0 W hA hr K hK
                have e96 : A0.tmps[96]?.getD undef = .bool false := slot_is (hA.val 12 _ rfl (hr ⟨12, .data⟩ (by simp) rfl))
                rw [if_pos (FreeG.wanted_plain rfl)]
                simp [go_sem, e96]
                exact hK _ _ (Below.refl _ _) rfl
              · intro listed A0 W hA hr K hK
                have eg : A0.tmps[97]?.getD undef = .bool false := slot_is (hA.val 13 _ rfl (hr ⟨13, .guard⟩ (by simp) rfl))
                have e7 : A0.tmps[7]?.getD undef = .pointer (some ⟨ba, 0, none⟩) := slot_is ((hA.kept 7 (Free.not_dst (by kernel_rfl))).trans rfl)
                have f0 : W.cell? ⟨ba, 0, none⟩ = some (.int .i64 (sgn)) := (hA.c.at_ 0 rfl).cell 0
                have f1 : W.cell? ⟨ba, 1, none⟩ = some (.int .i64 (stn)) := (hA.c.at_ 0 rfl).cell 1
                have f2 : W.cell? ⟨ba, 2, none⟩ = some (.slice Au mu pu) := (hA.c.at_ 0 rfl).cell 2
                have f3 : W.cell? ⟨ba, 3, none⟩ = some (.slice Bu ku qu) := (hA.c.at_ 0 rfl).cell 3
                have f4 : W.cell? ⟨ba, 4, none⟩ = some (.slice Cu nu ru) := (hA.c.at_ 0 rfl).cell 4
                rw [if_pos (FreeG.wanted_yes rfl rfl rfl eg)]
                simp [go_sem, e7, f0, f1, f2, f3, f4]
                exact hK _ _ (Below.refl _ _) rfl
              · intro listed A0 W hA hr K hK
                have eg : A0.tmps[97]?.getD undef = .bool false := slot_is (hA.val 13 _ rfl (hr ⟨13, .guard⟩ (by simp) rfl))
                have e98 : A0.tmps[98]?.getD undef = .agg #[.int .i64 (sgn), .int .i64 (stn), .slice Au mu pu, .slice Bu ku qu, .slice Cu nu ru] := slot_is (hA.val 14 _ rfl (hr ⟨14, .data⟩ (by simp) rfl))
                rw [if_pos (FreeG.wanted_yes rfl rfl rfl eg)]
                simp [go_sem, e98]
                refine (used_is sgn stn Au mu pu Bu ku qu Cu nu ru on ln fn U _ (hA.c.tab 0 rfl rfl rfl) (small_ok HK.out) HU.out).mono ?_
                rintro e' w' ⟨rfl, hb⟩
                exact hK _ _ hb rfl
              · intro listed A0 W hA hr K hK
                have eg : A0.tmps[97]?.getD undef = .bool false := slot_is (hA.val 13 _ rfl (hr ⟨13, .guard⟩ (by simp) rfl))
                have e9 : A0.tmps[9]?.getD undef = .pointer (some ⟨bc, 0, none⟩) := slot_is ((hA.kept 9 (Free.not_dst (by kernel_rfl))).trans rfl)
                have f0 : W.cell? ⟨bc, 0, none⟩ = some (.int .i64 (sgn)) := (hA.c.at_ 1 rfl).cell 0
                have f1 : W.cell? ⟨bc, 1, none⟩ = some (.int .i64 (stn)) := (hA.c.at_ 1 rfl).cell 1
                have f2 : W.cell? ⟨bc, 2, none⟩ = some (.slice Av mv pv) := (hA.c.at_ 1 rfl).cell 2
                have f3 : W.cell? ⟨bc, 3, none⟩ = some (.slice Bv kv qv) := (hA.c.at_ 1 rfl).cell 3
                have f4 : W.cell? ⟨bc, 4, none⟩ = some (.slice Cv nv rv) := (hA.c.at_ 1 rfl).cell 4
                rw [if_pos (FreeG.wanted_yes rfl rfl rfl eg)]
                simp [go_sem, e9, f0, f1, f2, f3, f4]
                exact hK _ _ (Below.refl _ _) rfl
              · intro listed A0 W hA hr K hK
                have eg : A0.tmps[97]?.getD undef = .bool false := slot_is (hA.val 13 _ rfl (hr ⟨13, .guard⟩ (by simp) rfl))
                have e100 : A0.tmps[100]?.getD undef = .agg #[.int .i64 (sgn), .int .i64 (stn), .slice Av mv pv, .slice Bv kv qv, .slice Cv nv rv] := slot_is (hA.val 16 _ rfl (hr ⟨16, .data⟩ (by simp) rfl))
                rw [if_pos (FreeG.wanted_yes rfl rfl rfl eg)]
                simp [go_sem, e100]
                refine (rused_is sgn stn Av mv pv Bv kv qv Cv nv rv on ln fn U _ (hA.c.tab 3 rfl rfl rfl) (small_ok HK.out) HU.out).mono ?_
                rintro e' w' ⟨rfl, hb⟩
                exact hK _ _ hb rfl
              · intro listed A0 W hA hr K hK
                have eg : A0.tmps[97]?.getD undef = .bool false := slot_is (hA.val 13 _ rfl (hr ⟨13, .guard⟩ (by simp) rfl))
                have e99 : A0.tmps[99]?.getD undef = .int .i64 (U) := slot_is (hA.val 15 _ rfl (hr ⟨15, .data⟩ (by simp) rfl))
                have e101 : A0.tmps[101]?.getD undef = .int .i64 (U) := slot_is (hA.val 17 _ rfl (hr ⟨17, .data⟩ (by simp) rfl))
                rw [if_pos (FreeG.wanted_yes rfl rfl rfl eg)]
                simp [go_sem, e99, e101]
                exact hK _ _ (Below.refl _ _) rfl
              · intro listed A0 W hA hr K hK
                have e97 : A0.tmps[97]?.getD undef = .bool false := slot_is (hA.val 13 _ rfl (hr ⟨13, .data⟩ (by simp) rfl))
                have e102 : A0.tmps[102]?.getD undef = .bool false := slot_is (hA.val 18 _ rfl (hr ⟨18, .data⟩ (by simp) rfl))
                rw [if_pos (FreeG.wanted_plain rfl)]
                simp [go_sem, e97, e102]
                exact hK _ _ (Below.refl _ _) rfl
              · intro listed A0 W hA hr K hK
                have e103 : A0.tmps[103]?.getD undef = .bool false := slot_is (hA.val 19 _ rfl (hr ⟨19, .data⟩ (by simp) rfl))
                rw [if_pos (FreeG.wanted_plain rfl)]
                simp [go_sem, e103]
                exact hK _ _ (Below.refl _ _) rfl
              · intro listed A0 W hA hr K hK
                have eg : A0.tmps[104]?.getD undef = .bool false := slot_is (hA.val 20 _ rfl (hr ⟨20, .guard⟩ (by simp) rfl))
                have e7 : A0.tmps[7]?.getD undef = .pointer (some ⟨ba, 0, none⟩) := slot_is ((hA.kept 7 (Free.not_dst (by kernel_rfl))).trans rfl)
                have f0 : W.cell? ⟨ba, 0, none⟩ = some (.int .i64 (sgn)) := (hA.c.at_ 0 rfl).cell 0
                have f1 : W.cell? ⟨ba, 1, none⟩ = some (.int .i64 (stn)) := (hA.c.at_ 0 rfl).cell 1
                have f2 : W.cell? ⟨ba, 2, none⟩ = some (.slice Au mu pu) := (hA.c.at_ 0 rfl).cell 2
                have f3 : W.cell? ⟨ba, 3, none⟩ = some (.slice Bu ku qu) := (hA.c.at_ 0 rfl).cell 3
                have f4 : W.cell? ⟨ba, 4, none⟩ = some (.slice Cu nu ru) := (hA.c.at_ 0 rfl).cell 4
                rw [if_pos (FreeG.wanted_yes rfl rfl rfl eg)]
                simp [go_sem, e7, f0, f1, f2, f3, f4]
                exact hK _ _ (Below.refl _ _) rfl
              · intro listed A0 W hA hr K hK
                have eg : A0.tmps[104]?.getD undef = .bool false := slot_is (hA.val 20 _ rfl (hr ⟨20, .guard⟩ (by simp) rfl))
                have e2 : A0.tmps[2]?.getD undef = .slice (some ⟨g, off, none⟩) N c := slot_is ((hA.kept 2 (Free.not_dst (by kernel_rfl))).trans rfl)
                rw [if_pos (FreeG.wanted_yes rfl rfl rfl eg)]
                simp [go_sem, e2]
                exact hK _ _ (Below.refl _ _) rfl
              · intro listed A0 W hA hr K hK
                have eg : A0.tmps[104]?.getD undef = .bool false := slot_is (hA.val 20 _ rfl (hr ⟨20, .guard⟩ (by simp) rfl))
                have e11 : A0.tmps[11]?.getD undef = .int .i64 ((i : Nat)) := slot_is ((hA.kept 11 (Free.not_dst (by kernel_rfl))).trans rfl)
                rw [if_pos (FreeG.wanted_yes rfl rfl rfl eg)]
                simp [go_sem, e11]
                exact hK _ _ (Below.refl _ _) rfl
              · intro listed A0 W hA hr K hK
                have eg : A0.tmps[104]?.getD undef = .bool false := slot_is (hA.val 20 _ rfl (hr ⟨20, .guard⟩ (by simp) rfl))
                have e106 : A0.tmps[106]?.getD undef = .slice (some ⟨g, off, none⟩) N c := slot_is (hA.val 22 _ rfl (hr ⟨22, .data⟩ (by simp) rfl))
                have e107 : A0.tmps[107]?.getD undef = .int .i64 ((i : Nat)) := slot_is (hA.val 23 _ rfl (hr ⟨23, .data⟩ (by simp) rfl))
                rw [if_pos (FreeG.wanted_yes rfl rfl rfl eg)]
                simp [go_sem, e106, e107, hlti]
                exact hK _ _ (Below.refl _ _) rfl
              · intro listed A0 W hA hr K hK
                have eg : A0.tmps[104]?.getD undef = .bool false := slot_is (hA.val 20 _ rfl (hr ⟨20, .guard⟩ (by simp) rfl))
                have e108 : A0.tmps[108]?.getD undef = .pointer (some ⟨g, off + i * 3, none⟩) := slot_is (hA.val 24 _ rfl (hr ⟨24, .data⟩ (by simp) rfl))
                rw [if_pos (FreeG.wanted_yes rfl rfl rfl eg)]
                simp [go_sem, e108]
                exact hK _ _ (Below.refl _ _) rfl
              · intro listed A0 W hA hr K hK
                have eg : A0.tmps[104]?.getD undef = .bool false := slot_is (hA.val 20 _ rfl (hr ⟨20, .guard⟩ (by simp) rfl))
                have e109 : A0.tmps[109]?.getD undef = .pointer (some ⟨g, off + i * 3 + 1, none⟩) := slot_is (hA.val 25 _ rfl (hr ⟨25, .data⟩ (by simp) rfl))
                rw [if_pos (FreeG.wanted_yes rfl rfl rfl eg)]
                have f0 : W.cell? ⟨g, off + i * 3 + 1, none⟩ = some (.int .i64 (G i)) := (hA.c.b.cell (p := ⟨g, off + i * 3 + 1, none⟩) hgl).trans cel1
                simp [go_sem, e109, f0]
                exact hK _ _ (Below.refl _ _) rfl
              · intro listed A0 W hA hr K hK
                have eg : A0.tmps[104]?.getD undef = .bool false := slot_is (hA.val 20 _ rfl (hr ⟨20, .guard⟩ (by simp) rfl))
                have e105 : A0.tmps[105]?.getD undef = .agg #[.int .i64 (sgn), .int .i64 (stn), .slice Au mu pu, .slice Bu ku qu, .slice Cu nu ru] := slot_is (hA.val 21 _ rfl (hr ⟨21, .data⟩ (by simp) rfl))
                have e110 : A0.tmps[110]?.getD undef = .int .i64 (G i) := slot_is (hA.val 26 _ rfl (hr ⟨26, .data⟩ (by simp) rfl))
                rw [if_pos (FreeG.wanted_yes rfl rfl rfl eg)]
                simp [go_sem, e105, e110]
                refine (len_is sgn stn Au mu pu Bu ku qu Cu nu ru on ln fn (G i) L1 _ (hA.c.tab 0 rfl rfl rfl) hmu hlo HL.out).mono ?_
                rintro e' w' ⟨rfl, hb⟩
                exact hK _ _ hb rfl
              · intro listed A0 W hA hr K hK
                have eg : A0.tmps[104]?.getD undef = .bool false := slot_is (hA.val 20 _ rfl (hr ⟨20, .guard⟩ (by simp) rfl))
                have e9 : A0.tmps[9]?.getD undef = .pointer (some ⟨bc, 0, none⟩) := slot_is ((hA.kept 9 (Free.not_dst (by kernel_rfl))).trans rfl)
                have f0 : W.cell? ⟨bc, 0, none⟩ = some (.int .i64 (sgn)) := (hA.c.at_ 1 rfl).cell 0
                have f1 : W.cell? ⟨bc, 1, none⟩ = some (.int .i64 (stn)) := (hA.c.at_ 1 rfl).cell 1
                have f2 : W.cell? ⟨bc, 2, none⟩ = some (.slice Av mv pv) := (hA.c.at_ 1 rfl).cell 2
                have f3 : W.cell? ⟨bc, 3, none⟩ = some (.slice Bv kv qv) := (hA.c.at_ 1 rfl).cell 3
                have f4 : W.cell? ⟨bc, 4, none⟩ = some (.slice Cv nv rv) := (hA.c.at_ 1 rfl).cell 4
                rw [if_pos (FreeG.wanted_yes rfl rfl rfl eg)]
                simp [go_sem, e9, f0, f1, f2, f3, f4]
                exact hK _ _ (Below.refl _ _) rfl
              · intro listed A0 W hA hr K hK
                have eg : A0.tmps[104]?.getD undef = .bool false := slot_is (hA.val 20 _ rfl (hr ⟨20, .guard⟩ (by simp) rfl))
                have e2 : A0.tmps[2]?.getD undef = .slice (some ⟨g, off, none⟩) N c := slot_is ((hA.kept 2 (Free.not_dst (by kernel_rfl))).trans rfl)
                rw [if_pos (FreeG.wanted_yes rfl rfl rfl eg)]
                simp [go_sem, e2]
                exact hK _ _ (Below.refl _ _) rfl
              · intro listed A0 W hA hr K hK
                have eg : A0.tmps[104]?.getD undef = .bool false := slot_is (hA.val 20 _ rfl (hr ⟨20, .guard⟩ (by simp) rfl))
                have e11 : A0.tmps[11]?.getD undef = .int .i64 ((i : Nat)) := slot_is ((hA.kept 11 (Free.not_dst (by kernel_rfl))).trans rfl)
                rw [if_pos (FreeG.wanted_yes rfl rfl rfl eg)]
                simp [go_sem, e11]
                exact hK _ _ (Below.refl _ _) rfl
              · intro listed A0 W hA hr K hK
                have eg : A0.tmps[104]?.getD undef = .bool false := slot_is (hA.val 20 _ rfl (hr ⟨20, .guard⟩ (by simp) rfl))
                have e113 : A0.tmps[113]?.getD undef = .slice (some ⟨g, off, none⟩) N c := slot_is (hA.val 29 _ rfl (hr ⟨29, .data⟩ (by simp) rfl))
                have e114 : A0.tmps[114]?.getD undef = .int .i64 ((i : Nat)) := slot_is (hA.val 30 _ rfl (hr ⟨30, .data⟩ (by simp) rfl))
                rw [if_pos (FreeG.wanted_yes rfl rfl rfl eg)]
                simp [go_sem, e113, e114, hlti]
                exact hK _ _ (Below.refl _ _) rfl
              · intro listed A0 W hA hr K hK
                have eg : A0.tmps[104]?.getD undef = .bool false := slot_is (hA.val 20 _ rfl (hr ⟨20, .guard⟩ (by simp) rfl))
                have e115 : A0.tmps[115]?.getD undef = .pointer (some ⟨g, off + i * 3, none⟩) := slot_is (hA.val 31 _ rfl (hr ⟨31, .data⟩ (by simp) rfl))
                rw [if_pos (FreeG.wanted_yes rfl rfl rfl eg)]
                simp [go_sem, e115]
                exact hK _ _ (Below.refl _ _) rfl
              · intro listed A0 W hA hr K hK
                have eg : A0.tmps[104]?.getD undef = .bool false := slot_is (hA.val 20 _ rfl (hr ⟨20, .guard⟩ (by simp) rfl))
                have e116 : A0.tmps[116]?.getD undef = .pointer (some ⟨g, off + i * 3 + 1, none⟩) := slot_is (hA.val 32 _ rfl (hr ⟨32, .data⟩ (by simp) rfl))
                rw [if_pos (FreeG.wanted_yes rfl rfl rfl eg)]
                have f0 : W.cell? ⟨g, off + i * 3 + 1, none⟩ = some (.int .i64 (G i)) := (hA.c.b.cell (p := ⟨g, off + i * 3 + 1, none⟩) hgl).trans cel1
                simp [go_sem, e116, f0]
                exact hK _ _ (Below.refl _ _) rfl
              · intro listed A0 W hA hr K hK
                have eg : A0.tmps[104]?.getD undef = .bool false := slot_is (hA.val 20 _ rfl (hr ⟨20, .guard⟩ (by simp) rfl))
                have e112 : A0.tmps[112]?.getD undef = .agg #[.int .i64 (sgn), .int .i64 (stn), .slice Av mv pv, .slice Bv kv qv, .slice Cv nv rv] := slot_is (hA.val 28 _ rfl (hr ⟨28, .data⟩ (by simp) rfl))
                have e117 : A0.tmps[117]?.getD undef = .int .i64 (G i) := slot_is (hA.val 33 _ rfl (hr ⟨33, .data⟩ (by simp) rfl))
                rw [if_pos (FreeG.wanted_yes rfl rfl rfl eg)]
                simp [go_sem, e112, e117]
                refine (rlen_is sgn stn Av mv pv Bv kv qv Cv nv rv on ln fn (G i) L1 _ (hA.c.tab 3 rfl rfl rfl) hmv hlo HL.out).mono ?_
                rintro e' w' ⟨rfl, hb⟩
                exact hK _ _ hb rfl
              · intro listed A0 W hA hr K hK
                have eg : A0.tmps[104]?.getD undef = .bool false := slot_is (hA.val 20 _ rfl (hr ⟨20, .guard⟩ (by simp) rfl))
                have e111 : A0.tmps[111]?.getD undef = .int .i64 (L1) := slot_is (hA.val 27 _ rfl (hr ⟨27, .data⟩ (by simp) rfl))
                have e118 : A0.tmps[118]?.getD undef = .int .i64 (L1) := slot_is (hA.val 34 _ rfl (hr ⟨34, .data⟩ (by simp) rfl))
                rw [if_pos (FreeG.wanted_yes rfl rfl rfl eg)]
                simp [go_sem, e111, e118]
                exact hK _ _ (Below.refl _ _) rfl
              · intro listed A0 W hA hr K hK
                have e104 : A0.tmps[104]?.getD undef = .bool false := slot_is (hA.val 20 _ rfl (hr ⟨20, .data⟩ (by simp) rfl))
                have e119 : A0.tmps[119]?.getD undef = .bool false := slot_is (hA.val 35 _ rfl (hr ⟨35, .data⟩ (by simp) rfl))
                rw [if_pos (FreeG.wanted_plain rfl)]
                simp [go_sem, e104, e119]
                exact hK _ _ (Below.refl _ _) rfl
            · intro A0 W hA
              have s120 : A0.tmps.getD 120 undef = .bool false := hA.val 36 _ rfl rfl
              have hde := hA.defers
              obtain ⟨y', hy', ee'⟩ := fr13 rfl hA.slots (fun d hd => hA.kept d (kept_of (dsts := [84, 85, 86, 87, 88, 89, 90, 91, 92, 93, 94, 95, 96, 97, 98, 99, 100, 101, 102, 103, 104, 105, 106, 107, 108, 109, 110, 111, 112, 113, 114, 115, 116, 117, 118, 119, 120]) (by kernel_rfl) hd))
              have hI := Lib.hid hA.c
              clear hA I5
              obtain ⟨tm, de⟩ := A0
              simp only at s120 ee' hde hy'
              have t120 := (hy' 120).symm.trans s120
              rw [t120] at ee'
              clear hy' s120 t120
              subst ee' hde
              have HI2 : Hid (DoI w ba bc sgn stn Au mu pu Bu ku qu Cu nu ru Av mv pv Bv kv qv Cv nv rv on ln fn W) := Lib.hid ⟨hI.out.b, hI.out.at_ 0 rfl, hI.out.at_ 1 rfl, HK.out, hI.out.tab 0 rfl rfl rfl, hI.out.tab 3 rfl rfl rfl, mpu, HNB.out.1, HNB.out.2⟩
              clear hI HR HU HL hsg hlo hfl
              go_wp2_with fail
              go_roundg (N - (i + 1))
              case measure => have := HG.out; omega
              case rel => exact ⟨i + 1, sgn, stn, Au, mu, pu, Bu, ku, qu, Cu, nu, ru, Av, mv, pv, Bv, kv, qv, Cv, nv, rv, on, ln, fn, by omega, rfl, by go_num, HI2⟩
        · go_wp2_with fail
          refine (fixed_any _).mono ?_
          rintro e' w5 ⟨rfl, hb⟩
          go_wp2_with fail
          go_ret
          exact ⟨rfl, Ge.trans HI.out.b hb⟩
      · obtain rfl : i = N := by omega
        have hlti : ¬ (i : Int) < (i : Int) := by omega
        go_wp2_with fail
        refine (fixed_any _).mono ?_
        rintro e' w5 ⟨rfl, hb⟩
        go_wp2_with fail
        go_ret
        exact ⟨rfl, Ge.trans HI.out.b hb⟩

theorem cellsE0 : Try.prog.cellsOf 3 = 1 := by kernel_rfl
theorem cellsT0 : Try.prog.cellsOf 22 = 2 := by kernel_rfl

set_option maxRecDepth 100000 in
theorem lifted (os : Os) (started : os.Started) (H : Type) (enc : TypeId × Value → H) :
    ReturnsInHanded {} Try.checked os 3 .any (Rows.tableDoesSpec.pre6 enc Try.prog Try.f3 Rows.tableDoesRow.domain false) (Rows.tableDoesSpec.post enc Try.prog Try.f3 false true false false) := by
  refine returnsInHanded_of_change (C := Try.checked) own started (by kernel_rfl) Try.func3
    (ChangeSpec.witness6 (enc := enc) (C := Try.checked) false ⟨#[], #[.agg #[.int .i64 0, .int .i64 0], .int .u64 0, .slice none 0 0], []⟩ 8 (by kernel_rfl) (by kernel_rfl) (by kernel_rfl) (by kernel_rfl)) ?_
  intro W base args ds gs before hval0 hW hcnd _
  have hval : ∀ (j : Nat) t v, Try.f3.params[j]? = some t → args[j]? = some v → Value.okWide Try.prog W .any base t v := hval0
  have hW' := hW
  obtain ⟨p, q, hA0, hV, rfl, hfz, hnd⟩ := hW
  have hA : DataW.TrodAll enc Try.prog W 0 (fun _ => true) true Try.f3.params.toList args.toList ds p := hA0
  rw [Try.params3] at hA hval
  obtain ⟨v0, vs0, d0, ds0, p0, q0, hargs, rfl, rfl, h0, r0⟩ := trodAll_cons hA
  obtain ⟨v1, vs1, d1, ds1, p1, q1, rfl, rfl, rfl, h1, r1⟩ := trodAll_cons r0
  obtain ⟨v2, vs2, d2, ds2, p2, q2, rfl, rfl, rfl, h2, r2⟩ := trodAll_cons r1
  obtain ⟨rfl, rfl, rfl⟩ := trodAll_nil r2
  obtain rfl : args = #[v0, v1, v2] := by cases args; simp_all
  obtain ⟨rfl, rfl⟩ := trodVars_none hV
  obtain ⟨a0_0, a0_1, rfl, rfl, rfl, w0_0, w0_1⟩ := open_arr2 Try.underlying22 Try.underlying3 cellsE0 cellsT0 (hval 0 22 v0 rfl rfl) h0
  obtain ⟨a1, rfl, rfl, rfl, w1⟩ := open_int Try.underlying23 (hval 1 23 v1 rfl rfl) h1
  obtain ⟨L2, N2, c2, K2, G2, H2, rfl, hn2, hc2⟩ := open_tops (hval 2 24 v2 rfl rfl) h2
  clear hA0 hval0
  try simp only [List.append_nil] at hW'
  try simp only [List.nil_append] at hW'
  have hlt := fun x hx => hW'.lt x hx
  refine (walk a0_0 a0_1 a1 L2 N2 c2 K2 G2 H2 W w0_0 w0_1 w1 hn2 hc2).mono fun e W' ⟨he, hg⟩ => ?_
  subst he
  refine ⟨_, rfl, post_mem hW' (fun _ _ _ => (trodAll_cons_mk (shut_bool Try.underlying4 _) trodAll_mk0)) (fun sp hsp => ?_) (fun _ => rfl) hg (ok_one (by kernel_rfl) rfl (okWide_bool_mk Try.underlying4 _))⟩
  have hall := (trodAll_cons_mk (arg_same (sp := sp) laid (by kernel_rfl) (of_decide_eq_true (by kernel_rfl)) h0 hg (by intro x hx; simp_all) hlt hsp) (trodAll_cons_mk (arg_same (sp := sp) laid (by kernel_rfl) (of_decide_eq_true (by kernel_rfl)) h1 hg (by intro x hx; simp_all) hlt hsp) (trodAll_cons_mk (arg_same (sp := sp) laid (by kernel_rfl) (of_decide_eq_true (by kernel_rfl)) h2 hg (by intro x hx; simp_all) hlt hsp) trodAll_mk0)))
  try simp only [List.append_nil] at hall
  try simp only [List.nil_append] at hall
  exact hall

theorem over : Rows.tableDoesRow.holds Try.pinned (OpenSpec.ofChange Rows.tableDoesSpec) :=
  OpenClaim.holds_of_wide 3 Try.f3 rfl rfl rfl rfl rfl rfl rfl ⟨rfl, rfl, rfl, rfl, rfl⟩ rfl rfl rfl rfl rfl (by kernel_rfl) Try.func3 (by kernel_rfl)
    (of_decide_eq_true (by kernel_rfl)) (by unfold Func.isWrapper; first | (rw [if_pos (by decide +kernel)]; kernel_rfl) | (rw [if_neg (by decide +kernel)]; exact ⟨rfl, rfl⟩))
    (fun os started H enc _ => lifted os started H enc)

theorem proved : Rows.TableDoesSaid := over
#print axioms proved
end Go.Proofs.Ytpgbbbgblgkokaa.tableDoes
