/- For all inputs the statement SweepEnds about sweep returns true, and changes nothing. Conditions: none. -/
import Derived.Test.YtfhdckmpodmejaaSwI
import Derived.Test.YtfhdckmpodmejaaSwK
import Derived.Test.YtfhdckmpodmejaaClass
import Derived.Deep.RegionHeld3
import Derived.Test.YtfhdckmpodmejaaFreeD
import Derived.Test.YtfhdckmpodmejaaSwO
import Derived.ProofKit
import Derived.OpenShut
import Derived.ShutString
import Derived.SizedLaws
namespace Go.Proofs.Ytfhdckmpodmejaa.sweepEnds
open Go.ChangeShapes Go.WideShapes Go.ChangeAt Go.RowKit Go.Lib Go.MapKept
open Go.ChangeMaps (open_string shut_string)
set_option linter.unusedVariables false
set_option linter.unusedSimpArgs false

theorem own : ownKnob Try.prog.godebug = none := by kernel_rfl
theorem laid : laidOutB Try.prog = true := by kernel_rfl

set_option maxRecDepth 100000
open Sw Rw Sp
theorem arrF180 {cs : Array Value} (h : cs.size = 180) : ∃ y : Nat → Value, (∀ i, cs.getD i undef = y i) ∧ cs = #[y 0, y 1, y 2, y 3, y 4, y 5, y 6, y 7, y 8, y 9, y 10, y 11, y 12, y 13, y 14, y 15, y 16, y 17, y 18, y 19, y 20, y 21, y 22, y 23, y 24, y 25, y 26, y 27, y 28, y 29, y 30, y 31, y 32, y 33, y 34, y 35, y 36, y 37, y 38, y 39, y 40, y 41, y 42, y 43, y 44, y 45, y 46, y 47, y 48, y 49, y 50, y 51, y 52, y 53, y 54, y 55, y 56, y 57, y 58, y 59, y 60, y 61, y 62, y 63, y 64, y 65, y 66, y 67, y 68, y 69, y 70, y 71, y 72, y 73, y 74, y 75, y 76, y 77, y 78, y 79, y 80, y 81, y 82, y 83, y 84, y 85, y 86, y 87, y 88, y 89, y 90, y 91, y 92, y 93, y 94, y 95, y 96, y 97, y 98, y 99, y 100, y 101, y 102, y 103, y 104, y 105, y 106, y 107, y 108, y 109, y 110, y 111, y 112, y 113, y 114, y 115, y 116, y 117, y 118, y 119, y 120, y 121, y 122, y 123, y 124, y 125, y 126, y 127, y 128, y 129, y 130, y 131, y 132, y 133, y 134, y 135, y 136, y 137, y 138, y 139, y 140, y 141, y 142, y 143, y 144, y 145, y 146, y 147, y 148, y 149, y 150, y 151, y 152, y 153, y 154, y 155, y 156, y 157, y 158, y 159, y 160, y 161, y 162, y 163, y 164, y 165, y 166, y 167, y 168, y 169, y 170, y 171, y 172, y 173, y 174, y 175, y 176, y 177, y 178, y 179] := by
  refine ⟨fun i => cs.getD i undef, fun _ => rfl, ?_⟩
  have e : cs = ((List.range 180).map fun i => cs.getD i undef).toArray := by
    apply Array.ext
    · simp [h]
    · intro i h1 h2
      simp [h1]
  exact e.trans rfl
theorem kept_of {ops : Array Oper} {dsts : List Nat} {listed : Array Bool} (h : ops.all (fun o => match o.dst with | none => true | some d => dsts.contains d) = true) {d : Nat} (hd : dsts.contains d = false) : ∀ i o, ops[i]? = some o → listed.getD i false = true → o.dst ≠ some d := by
  intro i o hi _ e
  rw [Array.all_eq_true_iff_forall_mem] at h
  have := h o (Array.mem_of_getElem? hi)
  rw [e] at this
  simp only at this
  rw [hd] at this
  cases this
set_option maxRecDepth 100000 in
theorem frE {z0 z1 z2 z3 z4 z5 z6 z7 z8 z9 z10 z11 z12 z13 z14 z15 z16 z17 z18 z19 z20 z21 z22 z23 z24 z25 z26 z27 z28 z29 z30 z31 z32 z33 z34 z35 z36 z37 z38 z39 z40 z41 z42 z43 z44 z45 z46 z47 z48 z49 z50 z51 z52 z53 z54 z55 z56 z57 z58 z59 z60 z61 z62 z63 z64 z65 z66 z67 z68 z69 z70 z71 z72 z73 z74 z75 z76 z77 z78 z79 z80 z81 z82 z83 z84 z85 z86 z87 z88 z89 z90 z91 z92 z93 z94 z95 z96 z97 z98 z99 z100 z101 z102 z103 z104 z105 z106 z107 z108 z109 z110 z111 z112 z113 z114 z115 z116 z117 z118 z119 z120 z121 z122 z123 z124 z125 z126 z127 z128 z129 z130 z131 z132 z133 z134 z135 z136 z137 z138 z139 z140 z141 z142 z143 z144 z145 z146 z147 z148 z149 z150 z151 z152 z153 z154 z155 z156 z157 z158 z159 z160 z161 z162 z163 z164 z165 z166 z167 z168 z169 z170 z171 z172 z173 z174 z175 z176 z177 z178 z179 : Value} {ts us : Array Value} (hz : ts = #[z0, z1, z2, z3, z4, z5, z6, z7, z8, z9, z10, z11, z12, z13, z14, z15, z16, z17, z18, z19, z20, z21, z22, z23, z24, z25, z26, z27, z28, z29, z30, z31, z32, z33, z34, z35, z36, z37, z38, z39, z40, z41, z42, z43, z44, z45, z46, z47, z48, z49, z50, z51, z52, z53, z54, z55, z56, z57, z58, z59, z60, z61, z62, z63, z64, z65, z66, z67, z68, z69, z70, z71, z72, z73, z74, z75, z76, z77, z78, z79, z80, z81, z82, z83, z84, z85, z86, z87, z88, z89, z90, z91, z92, z93, z94, z95, z96, z97, z98, z99, z100, z101, z102, z103, z104, z105, z106, z107, z108, z109, z110, z111, z112, z113, z114, z115, z116, z117, z118, z119, z120, z121, z122, z123, z124, z125, z126, z127, z128, z129, z130, z131, z132, z133, z134, z135, z136, z137, z138, z139, z140, z141, z142, z143, z144, z145, z146, z147, z148, z149, z150, z151, z152, z153, z154, z155, z156, z157, z158, z159, z160, z161, z162, z163, z164, z165, z166, z167, z168, z169, z170, z171, z172, z173, z174, z175, z176, z177, z178, z179]) (hs : us.size = ts.size) (hk : ∀ d, [32, 33, 9, 10].contains d = false → us.getD d undef = ts.getD d undef) :
    ∃ y : Nat → Value, (∀ i, us.getD i undef = y i) ∧ us = #[z0, z1, z2, z3, z4, z5, z6, z7, z8, y 9, y 10, z11, z12, z13, z14, z15, z16, z17, z18, z19, z20, z21, z22, z23, z24, z25, z26, z27, z28, z29, z30, z31, y 32, y 33, z34, z35, z36, z37, z38, z39, z40, z41, z42, z43, z44, z45, z46, z47, z48, z49, z50, z51, z52, z53, z54, z55, z56, z57, z58, z59, z60, z61, z62, z63, z64, z65, z66, z67, z68, z69, z70, z71, z72, z73, z74, z75, z76, z77, z78, z79, z80, z81, z82, z83, z84, z85, z86, z87, z88, z89, z90, z91, z92, z93, z94, z95, z96, z97, z98, z99, z100, z101, z102, z103, z104, z105, z106, z107, z108, z109, z110, z111, z112, z113, z114, z115, z116, z117, z118, z119, z120, z121, z122, z123, z124, z125, z126, z127, z128, z129, z130, z131, z132, z133, z134, z135, z136, z137, z138, z139, z140, z141, z142, z143, z144, z145, z146, z147, z148, z149, z150, z151, z152, z153, z154, z155, z156, z157, z158, z159, z160, z161, z162, z163, z164, z165, z166, z167, z168, z169, z170, z171, z172, z173, z174, z175, z176, z177, z178, z179] := by
  obtain ⟨y, hy, e⟩ := arrF180 (cs := us) (by rw [hs, hz]; rfl)
  subst hz
  refine ⟨y, hy, e.trans ?_⟩
  have e0 : y 0 = z0 := (hy 0).symm.trans (hk 0 rfl)
  have e1 : y 1 = z1 := (hy 1).symm.trans (hk 1 rfl)
  have e2 : y 2 = z2 := (hy 2).symm.trans (hk 2 rfl)
  have e3 : y 3 = z3 := (hy 3).symm.trans (hk 3 rfl)
  have e4 : y 4 = z4 := (hy 4).symm.trans (hk 4 rfl)
  have e5 : y 5 = z5 := (hy 5).symm.trans (hk 5 rfl)
  have e6 : y 6 = z6 := (hy 6).symm.trans (hk 6 rfl)
  have e7 : y 7 = z7 := (hy 7).symm.trans (hk 7 rfl)
  have e8 : y 8 = z8 := (hy 8).symm.trans (hk 8 rfl)
  have e11 : y 11 = z11 := (hy 11).symm.trans (hk 11 rfl)
  have e12 : y 12 = z12 := (hy 12).symm.trans (hk 12 rfl)
  have e13 : y 13 = z13 := (hy 13).symm.trans (hk 13 rfl)
  have e14 : y 14 = z14 := (hy 14).symm.trans (hk 14 rfl)
  have e15 : y 15 = z15 := (hy 15).symm.trans (hk 15 rfl)
  have e16 : y 16 = z16 := (hy 16).symm.trans (hk 16 rfl)
  have e17 : y 17 = z17 := (hy 17).symm.trans (hk 17 rfl)
  have e18 : y 18 = z18 := (hy 18).symm.trans (hk 18 rfl)
  have e19 : y 19 = z19 := (hy 19).symm.trans (hk 19 rfl)
  have e20 : y 20 = z20 := (hy 20).symm.trans (hk 20 rfl)
  have e21 : y 21 = z21 := (hy 21).symm.trans (hk 21 rfl)
  have e22 : y 22 = z22 := (hy 22).symm.trans (hk 22 rfl)
  have e23 : y 23 = z23 := (hy 23).symm.trans (hk 23 rfl)
  have e24 : y 24 = z24 := (hy 24).symm.trans (hk 24 rfl)
  have e25 : y 25 = z25 := (hy 25).symm.trans (hk 25 rfl)
  have e26 : y 26 = z26 := (hy 26).symm.trans (hk 26 rfl)
  have e27 : y 27 = z27 := (hy 27).symm.trans (hk 27 rfl)
  have e28 : y 28 = z28 := (hy 28).symm.trans (hk 28 rfl)
  have e29 : y 29 = z29 := (hy 29).symm.trans (hk 29 rfl)
  have e30 : y 30 = z30 := (hy 30).symm.trans (hk 30 rfl)
  have e31 : y 31 = z31 := (hy 31).symm.trans (hk 31 rfl)
  have e34 : y 34 = z34 := (hy 34).symm.trans (hk 34 rfl)
  have e35 : y 35 = z35 := (hy 35).symm.trans (hk 35 rfl)
  have e36 : y 36 = z36 := (hy 36).symm.trans (hk 36 rfl)
  have e37 : y 37 = z37 := (hy 37).symm.trans (hk 37 rfl)
  have e38 : y 38 = z38 := (hy 38).symm.trans (hk 38 rfl)
  have e39 : y 39 = z39 := (hy 39).symm.trans (hk 39 rfl)
  have e40 : y 40 = z40 := (hy 40).symm.trans (hk 40 rfl)
  have e41 : y 41 = z41 := (hy 41).symm.trans (hk 41 rfl)
  have e42 : y 42 = z42 := (hy 42).symm.trans (hk 42 rfl)
  have e43 : y 43 = z43 := (hy 43).symm.trans (hk 43 rfl)
  have e44 : y 44 = z44 := (hy 44).symm.trans (hk 44 rfl)
  have e45 : y 45 = z45 := (hy 45).symm.trans (hk 45 rfl)
  have e46 : y 46 = z46 := (hy 46).symm.trans (hk 46 rfl)
  have e47 : y 47 = z47 := (hy 47).symm.trans (hk 47 rfl)
  have e48 : y 48 = z48 := (hy 48).symm.trans (hk 48 rfl)
  have e49 : y 49 = z49 := (hy 49).symm.trans (hk 49 rfl)
  have e50 : y 50 = z50 := (hy 50).symm.trans (hk 50 rfl)
  have e51 : y 51 = z51 := (hy 51).symm.trans (hk 51 rfl)
  have e52 : y 52 = z52 := (hy 52).symm.trans (hk 52 rfl)
  have e53 : y 53 = z53 := (hy 53).symm.trans (hk 53 rfl)
  have e54 : y 54 = z54 := (hy 54).symm.trans (hk 54 rfl)
  have e55 : y 55 = z55 := (hy 55).symm.trans (hk 55 rfl)
  have e56 : y 56 = z56 := (hy 56).symm.trans (hk 56 rfl)
  have e57 : y 57 = z57 := (hy 57).symm.trans (hk 57 rfl)
  have e58 : y 58 = z58 := (hy 58).symm.trans (hk 58 rfl)
  have e59 : y 59 = z59 := (hy 59).symm.trans (hk 59 rfl)
  have e60 : y 60 = z60 := (hy 60).symm.trans (hk 60 rfl)
  have e61 : y 61 = z61 := (hy 61).symm.trans (hk 61 rfl)
  have e62 : y 62 = z62 := (hy 62).symm.trans (hk 62 rfl)
  have e63 : y 63 = z63 := (hy 63).symm.trans (hk 63 rfl)
  have e64 : y 64 = z64 := (hy 64).symm.trans (hk 64 rfl)
  have e65 : y 65 = z65 := (hy 65).symm.trans (hk 65 rfl)
  have e66 : y 66 = z66 := (hy 66).symm.trans (hk 66 rfl)
  have e67 : y 67 = z67 := (hy 67).symm.trans (hk 67 rfl)
  have e68 : y 68 = z68 := (hy 68).symm.trans (hk 68 rfl)
  have e69 : y 69 = z69 := (hy 69).symm.trans (hk 69 rfl)
  have e70 : y 70 = z70 := (hy 70).symm.trans (hk 70 rfl)
  have e71 : y 71 = z71 := (hy 71).symm.trans (hk 71 rfl)
  have e72 : y 72 = z72 := (hy 72).symm.trans (hk 72 rfl)
  have e73 : y 73 = z73 := (hy 73).symm.trans (hk 73 rfl)
  have e74 : y 74 = z74 := (hy 74).symm.trans (hk 74 rfl)
  have e75 : y 75 = z75 := (hy 75).symm.trans (hk 75 rfl)
  have e76 : y 76 = z76 := (hy 76).symm.trans (hk 76 rfl)
  have e77 : y 77 = z77 := (hy 77).symm.trans (hk 77 rfl)
  have e78 : y 78 = z78 := (hy 78).symm.trans (hk 78 rfl)
  have e79 : y 79 = z79 := (hy 79).symm.trans (hk 79 rfl)
  have e80 : y 80 = z80 := (hy 80).symm.trans (hk 80 rfl)
  have e81 : y 81 = z81 := (hy 81).symm.trans (hk 81 rfl)
  have e82 : y 82 = z82 := (hy 82).symm.trans (hk 82 rfl)
  have e83 : y 83 = z83 := (hy 83).symm.trans (hk 83 rfl)
  have e84 : y 84 = z84 := (hy 84).symm.trans (hk 84 rfl)
  have e85 : y 85 = z85 := (hy 85).symm.trans (hk 85 rfl)
  have e86 : y 86 = z86 := (hy 86).symm.trans (hk 86 rfl)
  have e87 : y 87 = z87 := (hy 87).symm.trans (hk 87 rfl)
  have e88 : y 88 = z88 := (hy 88).symm.trans (hk 88 rfl)
  have e89 : y 89 = z89 := (hy 89).symm.trans (hk 89 rfl)
  have e90 : y 90 = z90 := (hy 90).symm.trans (hk 90 rfl)
  have e91 : y 91 = z91 := (hy 91).symm.trans (hk 91 rfl)
  have e92 : y 92 = z92 := (hy 92).symm.trans (hk 92 rfl)
  have e93 : y 93 = z93 := (hy 93).symm.trans (hk 93 rfl)
  have e94 : y 94 = z94 := (hy 94).symm.trans (hk 94 rfl)
  have e95 : y 95 = z95 := (hy 95).symm.trans (hk 95 rfl)
  have e96 : y 96 = z96 := (hy 96).symm.trans (hk 96 rfl)
  have e97 : y 97 = z97 := (hy 97).symm.trans (hk 97 rfl)
  have e98 : y 98 = z98 := (hy 98).symm.trans (hk 98 rfl)
  have e99 : y 99 = z99 := (hy 99).symm.trans (hk 99 rfl)
  have e100 : y 100 = z100 := (hy 100).symm.trans (hk 100 rfl)
  have e101 : y 101 = z101 := (hy 101).symm.trans (hk 101 rfl)
  have e102 : y 102 = z102 := (hy 102).symm.trans (hk 102 rfl)
  have e103 : y 103 = z103 := (hy 103).symm.trans (hk 103 rfl)
  have e104 : y 104 = z104 := (hy 104).symm.trans (hk 104 rfl)
  have e105 : y 105 = z105 := (hy 105).symm.trans (hk 105 rfl)
  have e106 : y 106 = z106 := (hy 106).symm.trans (hk 106 rfl)
  have e107 : y 107 = z107 := (hy 107).symm.trans (hk 107 rfl)
  have e108 : y 108 = z108 := (hy 108).symm.trans (hk 108 rfl)
  have e109 : y 109 = z109 := (hy 109).symm.trans (hk 109 rfl)
  have e110 : y 110 = z110 := (hy 110).symm.trans (hk 110 rfl)
  have e111 : y 111 = z111 := (hy 111).symm.trans (hk 111 rfl)
  have e112 : y 112 = z112 := (hy 112).symm.trans (hk 112 rfl)
  have e113 : y 113 = z113 := (hy 113).symm.trans (hk 113 rfl)
  have e114 : y 114 = z114 := (hy 114).symm.trans (hk 114 rfl)
  have e115 : y 115 = z115 := (hy 115).symm.trans (hk 115 rfl)
  have e116 : y 116 = z116 := (hy 116).symm.trans (hk 116 rfl)
  have e117 : y 117 = z117 := (hy 117).symm.trans (hk 117 rfl)
  have e118 : y 118 = z118 := (hy 118).symm.trans (hk 118 rfl)
  have e119 : y 119 = z119 := (hy 119).symm.trans (hk 119 rfl)
  have e120 : y 120 = z120 := (hy 120).symm.trans (hk 120 rfl)
  have e121 : y 121 = z121 := (hy 121).symm.trans (hk 121 rfl)
  have e122 : y 122 = z122 := (hy 122).symm.trans (hk 122 rfl)
  have e123 : y 123 = z123 := (hy 123).symm.trans (hk 123 rfl)
  have e124 : y 124 = z124 := (hy 124).symm.trans (hk 124 rfl)
  have e125 : y 125 = z125 := (hy 125).symm.trans (hk 125 rfl)
  have e126 : y 126 = z126 := (hy 126).symm.trans (hk 126 rfl)
  have e127 : y 127 = z127 := (hy 127).symm.trans (hk 127 rfl)
  have e128 : y 128 = z128 := (hy 128).symm.trans (hk 128 rfl)
  have e129 : y 129 = z129 := (hy 129).symm.trans (hk 129 rfl)
  have e130 : y 130 = z130 := (hy 130).symm.trans (hk 130 rfl)
  have e131 : y 131 = z131 := (hy 131).symm.trans (hk 131 rfl)
  have e132 : y 132 = z132 := (hy 132).symm.trans (hk 132 rfl)
  have e133 : y 133 = z133 := (hy 133).symm.trans (hk 133 rfl)
  have e134 : y 134 = z134 := (hy 134).symm.trans (hk 134 rfl)
  have e135 : y 135 = z135 := (hy 135).symm.trans (hk 135 rfl)
  have e136 : y 136 = z136 := (hy 136).symm.trans (hk 136 rfl)
  have e137 : y 137 = z137 := (hy 137).symm.trans (hk 137 rfl)
  have e138 : y 138 = z138 := (hy 138).symm.trans (hk 138 rfl)
  have e139 : y 139 = z139 := (hy 139).symm.trans (hk 139 rfl)
  have e140 : y 140 = z140 := (hy 140).symm.trans (hk 140 rfl)
  have e141 : y 141 = z141 := (hy 141).symm.trans (hk 141 rfl)
  have e142 : y 142 = z142 := (hy 142).symm.trans (hk 142 rfl)
  have e143 : y 143 = z143 := (hy 143).symm.trans (hk 143 rfl)
  have e144 : y 144 = z144 := (hy 144).symm.trans (hk 144 rfl)
  have e145 : y 145 = z145 := (hy 145).symm.trans (hk 145 rfl)
  have e146 : y 146 = z146 := (hy 146).symm.trans (hk 146 rfl)
  have e147 : y 147 = z147 := (hy 147).symm.trans (hk 147 rfl)
  have e148 : y 148 = z148 := (hy 148).symm.trans (hk 148 rfl)
  have e149 : y 149 = z149 := (hy 149).symm.trans (hk 149 rfl)
  have e150 : y 150 = z150 := (hy 150).symm.trans (hk 150 rfl)
  have e151 : y 151 = z151 := (hy 151).symm.trans (hk 151 rfl)
  have e152 : y 152 = z152 := (hy 152).symm.trans (hk 152 rfl)
  have e153 : y 153 = z153 := (hy 153).symm.trans (hk 153 rfl)
  have e154 : y 154 = z154 := (hy 154).symm.trans (hk 154 rfl)
  have e155 : y 155 = z155 := (hy 155).symm.trans (hk 155 rfl)
  have e156 : y 156 = z156 := (hy 156).symm.trans (hk 156 rfl)
  have e157 : y 157 = z157 := (hy 157).symm.trans (hk 157 rfl)
  have e158 : y 158 = z158 := (hy 158).symm.trans (hk 158 rfl)
  have e159 : y 159 = z159 := (hy 159).symm.trans (hk 159 rfl)
  have e160 : y 160 = z160 := (hy 160).symm.trans (hk 160 rfl)
  have e161 : y 161 = z161 := (hy 161).symm.trans (hk 161 rfl)
  have e162 : y 162 = z162 := (hy 162).symm.trans (hk 162 rfl)
  have e163 : y 163 = z163 := (hy 163).symm.trans (hk 163 rfl)
  have e164 : y 164 = z164 := (hy 164).symm.trans (hk 164 rfl)
  have e165 : y 165 = z165 := (hy 165).symm.trans (hk 165 rfl)
  have e166 : y 166 = z166 := (hy 166).symm.trans (hk 166 rfl)
  have e167 : y 167 = z167 := (hy 167).symm.trans (hk 167 rfl)
  have e168 : y 168 = z168 := (hy 168).symm.trans (hk 168 rfl)
  have e169 : y 169 = z169 := (hy 169).symm.trans (hk 169 rfl)
  have e170 : y 170 = z170 := (hy 170).symm.trans (hk 170 rfl)
  have e171 : y 171 = z171 := (hy 171).symm.trans (hk 171 rfl)
  have e172 : y 172 = z172 := (hy 172).symm.trans (hk 172 rfl)
  have e173 : y 173 = z173 := (hy 173).symm.trans (hk 173 rfl)
  have e174 : y 174 = z174 := (hy 174).symm.trans (hk 174 rfl)
  have e175 : y 175 = z175 := (hy 175).symm.trans (hk 175 rfl)
  have e176 : y 176 = z176 := (hy 176).symm.trans (hk 176 rfl)
  have e177 : y 177 = z177 := (hy 177).symm.trans (hk 177 rfl)
  have e178 : y 178 = z178 := (hy 178).symm.trans (hk 178 rfl)
  have e179 : y 179 = z179 := (hy 179).symm.trans (hk 179 rfl)
  simp only [e0, e1, e2, e3, e4, e5, e6, e7, e8, e11, e12, e13, e14, e15, e16, e17, e18, e19, e20, e21, e22, e23, e24, e25, e26, e27, e28, e29, e30, e31, e34, e35, e36, e37, e38, e39, e40, e41, e42, e43, e44, e45, e46, e47, e48, e49, e50, e51, e52, e53, e54, e55, e56, e57, e58, e59, e60, e61, e62, e63, e64, e65, e66, e67, e68, e69, e70, e71, e72, e73, e74, e75, e76, e77, e78, e79, e80, e81, e82, e83, e84, e85, e86, e87, e88, e89, e90, e91, e92, e93, e94, e95, e96, e97, e98, e99, e100, e101, e102, e103, e104, e105, e106, e107, e108, e109, e110, e111, e112, e113, e114, e115, e116, e117, e118, e119, e120, e121, e122, e123, e124, e125, e126, e127, e128, e129, e130, e131, e132, e133, e134, e135, e136, e137, e138, e139, e140, e141, e142, e143, e144, e145, e146, e147, e148, e149, e150, e151, e152, e153, e154, e155, e156, e157, e158, e159, e160, e161, e162, e163, e164, e165, e166, e167, e168, e169, e170, e171, e172, e173, e174, e175, e176, e177, e178, e179]
section
variable {H : Type} {enc : TypeId × Value → H} {W : World} {b0 : Nat} {r' : Reach} {v : Value} {y : DataW H} {ps : List MemPlace}
/-- Two bytes by value. -/
theorem open_two8 (hv : Value.okWide Try.prog W r' b0 44 v) (h : DataW.Trod enc Try.prog W 0 (fun _ => true) true 44 v y ps) :
    ∃ a b : Int, v = .agg #[.int .u8 a, .int .u8 b] ∧ (0 ≤ a ∧ a ≤ 255) ∧ (0 ≤ b ∧ b ≤ 255) := by
  simp only [Value.okWide, Try.underlying44] at hv
  obtain ⟨cs, rfl, hsz, _⟩ := hv
  have hs2 : cs.size = 2 := hsz.trans (by kernel_rfl)
  obtain ⟨l⟩ := cs
  match l, hs2 with
  | [c0, c1], _ =>
  obtain ⟨fuel, hf⟩ := h
  obtain ⟨xs, n, _, _, _, hlen, hff⟩ := DataW.trod_array Try.underlying44 (by simpa [Value.cells] using hf)
  match xs, hlen with
  | [y0, y1], _ =>
    have k1 : Try.prog.cellsOf 5 = 1 := by kernel_rfl
    have g0 := hff 0 (by decide)
    have g1 := hff 1 (by decide)
    simp [k1] at g0 g1
    obtain ⟨a, e0, _, w0⟩ := DataW.trod_int Try.underlying5 g0
    obtain ⟨b, e1, _, w1⟩ := DataW.trod_int Try.underlying5 g1
    simp at e0 e1
    subst e0 e1
    refine ⟨a, b, rfl, ?_, ?_⟩
    · simp [Lit.wf] at w0; exact w0
    · simp [Lit.wf] at w1; exact w1
end
/-- A list that lies in a block of the call's own. -/
def lie (w : World) (T : TypeId) (cs : Array Value) (n : Nat) (W : World) (u : Value) : Prop := ∃ b, u = .slice (some ⟨b, 0, none⟩) n n ∧ w.heap.size ≤ b ∧ Sp.Blk W b T cs
theorem lie_later {w W W' : World} {T : TypeId} {cs : Array Value} {n : Nat} {u : Value} (h : lie w T cs n W u) (hb : Below W.heap.size W W') : lie w T cs n W' u := by
  obtain ⟨b, e, h1, h2⟩ := h
  exact ⟨b, e, h1, h2.later hb⟩
def seg (n : Nat) : List Int := (List.range n).map (fun (j : Nat) => (j : Int))
theorem seg_len (n : Nat) : (seg n).length = n := by unfold seg; simp
theorem seg_succ (n : Nat) : seg (n + 1) = seg n ++ [(n : Int)] := by unfold seg; rw [List.range_succ, List.map_append]; rfl
theorem seg_ok {M : Nat} (hM : M ≤ 15) : Right ⟨seg M, -1, 0, 0⟩ := by
  refine ⟨⟨fun x hx => ?_, ?_⟩, .inl ⟨rfl, rfl, rfl⟩⟩
  · obtain ⟨j, hj, rfl⟩ := List.mem_map.1 hx
    have := List.mem_range.1 hj
    refine ⟨by omega, by omega, ?_⟩
    show (j : Int) ≠ -1
    omega
  · have h : (List.range M).Nodup := List.nodup_range
    unfold seg
    exact List.Pairwise.map _ (fun a b (h : a ≠ b) => by show (a : Int) ≠ (b : Int); omega) h
theorem left_ge {s : St} {q : Int} (h : Right s) (hq : 0 ≤ q) : 0 ≤ left s q := by
  have hv := h.v
  unfold VicOk at hv
  unfold left
  have : 0 ≤ (s.t.length : Int) * (q + 2) := Int.mul_nonneg (by omega) (by omega)
  split <;> omega
theorem see_left {s r : St} {q : Int} (h : sees s = some r) : left r q + 1 = left s q ∧ r.t = s.t ∧ r.n = s.n := by
  unfold sees at h
  split at h
  · rename_i hn
    injection h with h
    subst h
    have hv : 0 ≤ s.v := by
      unfold next at hn
      split at hn
      · omega
      · split at hn
        · cases hn
        · split at hn
          · cases hn
          · cases hn
    refine ⟨?_, rfl, rfl⟩
    unfold left
    simp only
    rw [if_pos hv, if_pos hv]
    omega
  · cases h
theorem give_left {s r : St} {q : Int} (hR : Right s) (h : gives s = some r) : left r q + 1 = left s q ∧ r.t = s.t ∧ r.n = 0 := by
  unfold gives at h
  split at h
  · rename_i hn
    injection h with h
    subst h
    have hv := hR.v
    unfold VicOk at hv
    have h2 : 0 ≤ s.v ∧ s.c = s.n := by
      unfold next at hn
      split at hn
      · cases hn
      · split at hn
        · omega
        · split at hn
          · cases hn
          · cases hn
    refine ⟨?_, rfl, rfl⟩
    unfold left
    simp only
    rw [if_pos h2.1, if_neg (by omega)]
    omega
  · cases h
theorem take_left {s : St} {x m q : Int} (hR : Right s) (hv : s.v = -1) (hx : x ∈ s.t) (hm : 0 ≤ m) (hmq : m ≤ q) (hx0 : 0 ≤ x) : left ⟨less s.t x, x, 0, m⟩ q < left s q ∧ (less s.t x).length + 1 = s.t.length := by
  obtain ⟨i, h1, _⟩ := first_at hx
  have hlt := (List.getElem?_eq_some_iff.1 h1).1
  have hl : (less s.t x).length + 1 = s.t.length := by
    rw [less_at hR.t.2 h1, List.length_append, List.length_take, List.length_drop]
    omega
  refine ⟨?_, hl⟩
  unfold left
  simp only
  rw [if_pos hx0, if_neg (by omega), show (s.t.length : Int) = ((less s.t x).length : Int) + 1 by omega, Int.add_mul]
  omega
theorem sep_two {W X : World} {i j : Sp.Item} {a b : Nat} (hb : Below W.heap.size W X) (hi : i.holds X (fun k => k = a)) (hj : j.holds X (fun k => k = b)) (hne : a ≠ b) (ha : W.heap.size ≤ a) (hb' : W.heap.size ≤ b) : Sp.Sep W X [i, j] := by
  refine ⟨hb, [fun k => k = a, fun k => k = b], rfl, fun n it G hn hG => ?_, fun n m G H hnm hn hm k hk hk' => ?_, fun n G hn k hk => ?_⟩
  · match n with
    | 0 => injection hn with hn; injection hG with hG; subst hn hG; exact hi
    | 1 => injection hn with hn; injection hG with hG; subst hn hG; exact hj
    | _ + 2 => cases hn
  · match n, m with
    | 0, 0 => exact hnm rfl
    | 0, 1 => injection hn with hn; injection hm with hm; subst hn hm; exact hne (by have e1 : k = _ := hk; have e2 : k = _ := hk'; omega)
    | 1, 0 => injection hn with hn; injection hm with hm; subst hn hm; exact hne (by have e1 : k = _ := hk; have e2 : k = _ := hk'; omega)
    | 1, 1 => exact hnm rfl
    | _ + 2, _ => cases hn
    | 0, _ + 2 => cases hm
    | 1, _ + 2 => cases hm
  · match n with
    | 0 => injection hn with hn; subst hn; have e1 : k = _ := hk; omega
    | 1 => injection hn with hn; subst hn; have e1 : k = _ := hk; omega
    | _ + 2 => cases hn
theorem blk_set {X : World} {g k lb : Nat} {T : TypeId} {cs : Array Value} (h : Sp.Blk X lb T cs) (hg : g ≠ lb) (u : Value) : Sp.Blk (X.setCell ⟨g, k, none⟩ u) lb T cs := (Below.heap_setCell X ⟨g, k, none⟩ u lb (fun e => hg e.symm)).trans h
theorem vr_cell {w : World} {A : Option Addr} {n : Nat} {V : List Value} (h : VR w A n V) {b : Nat} (hb : Od.Nb A n b) (i : Nat) (u : Value) : VR (w.setCell ⟨b, i, none⟩ u) A n V := by
  refine ⟨h.len, fun h0 => ?_⟩
  obtain ⟨g, o, rfl, hc⟩ := h.c h0
  refine ⟨g, o, rfl, fun k v hk => ?_⟩
  have hne : g ≠ b := hb h0 _ rfl
  rw [World.cell?_setCell_far w ⟨b, i, none⟩ ⟨g, o + k, none⟩ u (fun e => hne e.symm)]
  exact hc k v hk
/-- The sweep's state in memory, and which segments were victims: none of l was. -/
structure EB (w : World) (n12 nw : Nat) (s : St) (A : Option Addr) (p : Nat) (l : List Int) (X : World) : Prop where
  b : Below w.heap.size w X
  k : Sp.Blk X n12 25 (sc s A p)
  va : VR X A s.t.length (iv s.t)
  na : Od.Nb A s.t.length n12 ∧ Od.Nb A s.t.length nw
  wc : ∀ j : Nat, j < 16 → ∃ β, X.cell? ⟨nw, j, none⟩ = some (.bool β) ∧ X.frozen? ⟨nw, j, none⟩ = false ∧ ((j : Int) ∈ l → β = false)
section
variable {w X Y : World} {n12 nw : Nat} {s : St} {A : Option Addr} {p : Nat} {l : List Int}
theorem EB.later (h : EB w n12 nw s A p l X) (hq : Below X.heap.size X Y) : EB w n12 nw s A p l Y := by
  refine ⟨h.b.trans (hq.mono h.b.size), h.k.later hq, h.va.later hq, h.na, fun j hj => ?_⟩
  obtain ⟨β, h1, h2, h3⟩ := h.wc j hj
  exact ⟨β, (hq.cell (World.block_lt_of_cell? _ _ h1)).trans h1, (hq.frozen (World.block_lt_of_cell? _ _ h1)).trans h2, h3⟩
theorem EB.row (h : EB w n12 nw s A p l X) {b : Nat} (h1 : b ≠ n12) (h2 : b ≠ nw) (h3 : w.heap.size ≤ b) (h4 : Od.Nb A s.t.length b) (cs : Array Value) : EB w n12 nw s A p l (X.setRow b cs) := by
  refine ⟨below_row h.b h3 cs, h.k.far h1 cs, Od.Nb.row h.va h4 cs, h.na, fun j hj => ?_⟩
  obtain ⟨β, e1, e2, e3⟩ := h.wc j hj
  have hr := setRow_other X b nw cs (Ne.symm h2)
  refine ⟨β, ?_, ?_, e3⟩
  · unfold World.cell? at e1 ⊢; simp only at e1 ⊢; rw [hr]; exact e1
  · unfold World.frozen? at e2 ⊢; simp only at e2 ⊢; rw [hr]; exact e2
theorem EB.set (h : EB w n12 nw s A p l X) (h1 : nw ≠ n12) (h3 : w.heap.size ≤ nw) {j : Nat} (hj : j < 16) : EB w n12 nw s A p (less l (j : Int)) (X.setCell ⟨nw, j, none⟩ (.bool true)) := by
  refine ⟨h.b.setCell h3 _, blk_set h.k h1 _, vr_cell h.va h.na.2 _ _, h.na, fun k hk => ?_⟩
  obtain ⟨β, e1, e2, e3⟩ := h.wc k hk
  refine ?_
  by_cases e : k = j
  · subst e
    exact ⟨true, World.cell?_setCell_same _ _ _ e1, by rw [World.frozen?_setCell]; exact e2, fun hm => by unfold less at hm; simp at hm⟩
  · refine ⟨β, ?_, by rw [World.frozen?_setCell]; exact e2, fun hm => e3 (List.mem_filter.1 hm).1⟩
    rw [World.cell?_setCell_other X ⟨nw, j, none⟩ ⟨nw, k, none⟩ (.bool true) (by intro h; cases h; exact e rfl)]
    exact e1
theorem EB.fin {r : St} {A9 : Option Addr} {p9 : Nat} (h : EB w n12 nw s A p r.t X) (hV : VR X A9 r.t.length (iv r.t)) (h1 : nw ≠ n12) (h3 : w.heap.size ≤ n12) (hN : Od.Nb A9 r.t.length n12 ∧ Od.Nb A9 r.t.length nw) : EB w n12 nw r A9 p9 r.t (X.setRow n12 (sc r A9 p9)) := by
  refine ⟨below_row h.b h3 _, h.k.row _, Od.Nb.row hV hN.1 _, hN, fun j hj => ?_⟩
  obtain ⟨β, e1, e2, e3⟩ := h.wc j hj
  have hr := setRow_other X n12 nw (sc r A9 p9) h1
  refine ⟨β, ?_, ?_, e3⟩
  · unfold World.cell? at e1 ⊢; simp only at e1 ⊢; rw [hr]; exact e1
  · unfold World.frozen? at e2 ⊢; simp only at e2 ⊢; rw [hr]; exact e2
end
/-- What is counted. -/
structure EP (q : Int) (M : Nat) (i tk : Nat) (s : St) : Prop where
  r : Right s
  nn : s.n ≤ q
  cnt : tk + s.t.length = M
  le : (i : Int) + left s q ≤ 480
theorem next_is (s : St) : (next s false = 0 ∧ s.v < 0 ∧ s.t = []) ∨ (next s false = 2 ∧ s.v < 0 ∧ s.t ≠ []) ∨ (next s false = 3 ∧ 0 ≤ s.v) ∨ (next s false = 4 ∧ 0 ≤ s.v) := by
  unfold next
  by_cases h1 : 0 ≤ s.v
  · by_cases h2 : s.c < s.n
    · rw [if_pos ⟨h1, h2⟩]; exact .inr (.inr (.inl ⟨rfl, h1⟩))
    · rw [if_neg (fun h => h2 h.2), if_pos h1]; exact .inr (.inr (.inr ⟨rfl, h1⟩))
  · rw [if_neg (fun h => h1 h.1), if_neg h1]
    by_cases h3 : s.t = []
    · rw [if_neg (by simpa using h3), if_neg (by simp)]; exact .inl ⟨rfl, by omega, h3⟩
    · rw [if_pos h3]; exact .inr (.inl ⟨rfl, by omega, h3⟩)
theorem idle_of {s : St} (h : Right s) (h1 : s.v < 0) (h2 : s.t = []) : s = idle := by
  have hv := h.v
  unfold VicOk at hv
  obtain ⟨t, v, c, n⟩ := s
  simp only at h1 h2 hv
  subst h2
  obtain ⟨rfl, rfl, rfl⟩ : v = -1 ∧ c = 0 ∧ n = 0 := by omega
  rfl
set_option maxHeartbeats 16000000 in
theorem walk (a b : Int) (A1 : Option Addr) (n1 c1 : Nat) (f1 : Nat → Int) (A2 : Option Addr) (n2 c2 : Nat) (f2 : Nat → Int) (w : World) (ha : 0 ≤ a ∧ a ≤ 255) (hb : 0 ≤ b ∧ b ≤ 255)
    (hn1 : n1 ≤ maxLen) (hc1 : CellsIn w A1 n1 (fun j => .int .u8 (f1 j))) (hw1 : ∀ j, j < n1 → (Lit.int .u8 (f1 j)).wf = true) (hn2 : n2 ≤ maxLen) (hc2 : CellsIn w A2 n2 (fun j => .int .u8 (f2 j))) (hw2 : ∀ j, j < n2 → (Lit.int .u8 (f2 j)).wf = true) :
    Calls Try.prog 5 #[.agg #[.int .u8 a, .int .u8 b], .slice A1 n1 c1, .slice A2 n2 c2] w fun e w' => e = .returned (.bool true) ∧ Below w.heap.size w w' := by
  obtain ⟨b0, hb0⟩ : ∃ b0, w.heap.size = b0 := ⟨_, rfl⟩
  obtain ⟨W, hW⟩ : ∃ W, w.alloc (.cells #[.int .u8 a, .int .u8 b] 44) = W := ⟨_, rfl⟩
  have HB := Lib.hid (show Below w.heap.size w W by rw [← hW]; exact below1 _ _)
  have BS : Hid (Sp.Blk W b0 44 #[.int .u8 a, .int .u8 b]) := Lib.hid (by rw [← hW, ← hb0]; exact Sp.Blk.new _ _ _)
  have HZ := Lib.hid hb0
  have P1 : Hid (∀ X j, Below w.heap.size w X → j < n1 → ∃ g o, A1 = some ⟨g, o, none⟩ ∧ X.cell? ⟨g, o + j, none⟩ = some (.int .u8 (f1 j)) ∧ 0 ≤ f1 j ∧ f1 j ≤ 255) := Lib.hid (fun X j hX hj => by
    obtain ⟨g, o, e, _, hc⟩ := hc1 (by omega)
    have h := hw1 j hj
    simp [Lit.wf] at h
    exact ⟨g, o, e, (hX.cell (World.block_lt_of_cell? _ _ (hc j hj))).trans (hc j hj), h.1, h.2⟩)
  have P2 : Hid (∀ X j, Below w.heap.size w X → j < n2 → ∃ g o, A2 = some ⟨g, o, none⟩ ∧ X.cell? ⟨g, o + j, none⟩ = some (.int .u8 (f2 j)) ∧ 0 ≤ f2 j ∧ f2 j ≤ 255) := Lib.hid (fun X j hX hj => by
    obtain ⟨g, o, e, _, hc⟩ := hc2 (by omega)
    have h := hw2 j hj
    simp [Lit.wf] at h
    exact ⟨g, o, e, (hX.cell (World.block_lt_of_cell? _ _ (hc j hj))).trans (hc j hj), h.1, h.2⟩)
  have N1 := Lib.hid hn1
  have N2 := Lib.hid hn2
  clear hn1 hn2 hc1 hc2 hw1 hw2
  have r1 : a.tmod 15 = a % 15 := Int.tmod_eq_emod_of_nonneg ha.1
  have r2 : b.tmod 31 = b % 31 := Int.tmod_eq_emod_of_nonneg hb.1
  obtain ⟨M, hM⟩ : ∃ M : Nat, 1 + a % 15 = (M : Int) := ⟨(1 + a % 15).toNat, by omega⟩
  obtain ⟨q, hq⟩ : ∃ q, b % 31 = q := ⟨_, rfl⟩
  have wM : IntKind.i64.wrap (1 + a % 15) = 1 + a % 15 := IntWalk.i64_in _ (by omega)
  have HM : Hid (1 ≤ M ∧ M ≤ 15) := Lib.hid (by omega)
  have HQ : Hid (0 ≤ q ∧ q ≤ 30) := Lib.hid (by omega)
  have x0 : ∀ jj : In (fun X => Below W.heap.size W X), jj.W.cell? ⟨b0, 0, none⟩ = some (.int .u8 a) := fun jj => (BS.out.later jj.h).cell 0
  have x1 : ∀ jj : In (fun X => Below W.heap.size W X), jj.W.cell? ⟨b0, 1, none⟩ = some (.int .u8 b) := fun jj => (BS.out.later jj.h).cell 1
  go_enter Try.func5, Try.ntmps5
  go_upto_region 1 with fail
  clear hW hb0
  have I : Below W.heap.size W { W with drawn := W.drawn + 1 } := (Below.refl _ _).drew
  have hne : Nonempty (In (fun X => Below W.heap.size W X)) := ⟨⟨_, I⟩⟩
  refine region_class (fun X => Below W.heap.size W X) (by kernel_rfl) (by kernel_rfl) I ?_
  repeat (go_big_quiet_step (fail))
  refine wpQuiet_nil ?_
  rintro _ ⟨jj, rfl⟩
  have H1 := Lib.hid jj.h
  clear I hne x0 x1
  generalize jj.W = W1 at *
  clear jj
  try rw [hM]
  try rw [hq]
  clear r1 r2 hM hq wM ha hb
  go_upto_region 2 with fail
  refine Free.wp_free [lie W1 3 #[] 0, lie W1 4 #[.bool false, .bool false, .bool false, .bool false, .bool false, .bool false, .bool false, .bool false, .bool false, .bool false, .bool false, .bool false, .bool false, .bool false, .bool false, .bool false] 16, lie W1 3 #[] 0, lie W1 4 #[.bool false, .bool false, .bool false, .bool false, .bool false, .bool false, .bool false, .bool false, .bool false, .bool false, .bool false, .bool false, .bool false, .bool false, .bool false, .bool false] 16] (fun X => Below W1.heap.size W1 X) (fun X Y => Below X.heap.size X Y) (by kernel_rfl) (by kernel_rfl) (Below.refl _ _).drew (fun _ _ h k => h.trans (k.mono h.size)) ?_ ?_ ?_
  · intro P hP X Y v hR hv
    simp only [List.mem_cons, List.not_mem_nil, or_false] at hP
    rcases hP with rfl | rfl | rfl | rfl <;> exact lie_later hv hR
  · refine ⟨?_, ?_, ?_, ?_, trivial⟩
    · intro listed A0 X hA hr K hK
      simp [go_sem]
      exact hK _ _ (below1 X _) ⟨X.heap.size, rfl, hA.c.size, Sp.Blk.new _ _ _⟩
    · intro listed A0 X hA hr K hK
      simp [go_sem]
      exact hK _ _ (below1 X _) ⟨X.heap.size, rfl, hA.c.size, (heap_alloc_last X _).trans (by kernel_rfl)⟩
    · intro listed A0 X hA hr K hK
      obtain ⟨b, e, h1, h2⟩ := hA.val 0 _ rfl (hr ⟨0, .data⟩ (by simp) rfl)
      have e' := FreeD.slot_is e
      simp [go_sem, e']
      exact hK _ _ (Below.refl _ _) ⟨b, rfl, h1, h2⟩
    · intro listed A0 X hA hr K hK
      obtain ⟨b, e, h1, h2⟩ := hA.val 1 _ rfl (hr ⟨1, .data⟩ (by simp) rfl)
      have e' := FreeD.slot_is e
      simp [go_sem, e']
      exact hK _ _ (Below.refl _ _) ⟨b, rfl, h1, h2⟩
  intro A0 W2 hA
  obtain ⟨ns, s9, hs1, hs2⟩ := hA.val 2 _ rfl rfl
  obtain ⟨nw, s10, hs3, hs4⟩ := hA.val 3 _ rfl rfl
  have hde := hA.defers
  obtain ⟨y, hy, ee⟩ := frE rfl hA.slots (fun d hd => hA.kept d (kept_of (dsts := [32, 33, 9, 10]) (by kernel_rfl) hd))
  have S2 : Sp.Sep W1 W2 [rowS 3 1 (.slice (some ⟨ns, 0, none⟩) 0 0) 0 (iv []), locI [(nw, 4, #[.bool false, .bool false, .bool false, .bool false, .bool false, .bool false, .bool false, .bool false, .bool false, .bool false, .bool false, .bool false, .bool false, .bool false, .bool false, .bool false])]] := by
    refine sep_two (a := ns) (b := nw) hA.c ⟨⟨rfl, .inr ⟨ns, 0, #[], rfl, Nat.zero_le _, hs2, Nat.le_refl _, by decide, rfl, rfl⟩⟩, fun k => ?_⟩ ⟨fun x hx => ?_, fun k => ?_⟩ (Od.blk_ne hs2 hs4 (by decide)) hs1 hs3
    · simp [Value.ownBlock, eq_comm]
    · rw [List.mem_singleton.1 hx]; exact hs4
    · simp [eq_comm]
  have HS2 := Lib.hid S2
  change A0.tmps.getD 9 undef = _ at s9
  change A0.tmps.getD 10 undef = _ at s10
  clear hA S2 hs1 hs2 hs3 hs4
  obtain ⟨tm, de⟩ := A0
  simp only at s9 s10 ee hde hy
  have t9 := (hy 9).symm.trans s9
  have t10 := (hy 10).symm.trans s10
  rw [t9, t10] at ee
  clear hy s9 s10 t9 t10
  subst ee hde
  go_upto_region 4 with fail
  go_loopg [9, 11] M (fun gk s9 s11 wr => ∃ (i : Nat) (A' : Option Addr) (p' : Nat), i ≤ M ∧ gk = M - i ∧ s9 = .slice A' i p' ∧ s11 = .int .i64 (i : Nat) ∧ Hid (Sp.Sep W1 wr [rowS 3 1 (.slice A' i p') i (iv (seg i)), locI [(nw, 4, #[.bool false, .bool false, .bool false, .bool false, .bool false, .bool false, .bool false, .bool false, .bool false, .bool false, .bool false, .bool false, .bool false, .bool false, .bool false, .bool false])]]))
  case atStart => exact ⟨0, some ⟨ns, 0, none⟩, 0, by omega, rfl, rfl, rfl, HS2⟩
  case round =>
    obtain ⟨i, A', p', hi, hgk, rfl, rfl, HI⟩ := hrel
    have HG := Lib.hid hgk
    clear hgk HS2
    by_cases hlt : i < M
    · have hl1 : (i : Int) < (M : Int) := by omega
      have wi : IntKind.i64.wrap ((i : Int) + 1) = (i : Int) + 1 := IntWalk.i64_in _ (by have := HM.out; omega)
      have hk1 : i < 1000 := by have := HM.out; omega
      obtain ⟨v', W5, hrun, S5⟩ := rows_pushS (cs := [.int .i64 (i : Int)]) HI.out (k := 0) rfl Try.underlying23 int_infos rfl (by decide) (by decide) hk1 rfl (by intro u hu; rw [List.mem_singleton.1 hu]; rfl)
      obtain ⟨A9, p9, rfl⟩ := rows_slice S5 (k := 0) rfl
      have H6 : Hid (Sp.Sep W1 W5 [rowS 3 1 (.slice A9 (i + 1) p9) (i + 1) (iv (seg (i + 1))), locI [(nw, 4, #[.bool false, .bool false, .bool false, .bool false, .bool false, .bool false, .bool false, .bool false, .bool false, .bool false, .bool false, .bool false, .bool false, .bool false, .bool false, .bool false])]]) := Lib.hid (by rw [seg_succ, iv_snoc]; exact S5)
      clear S5
      go_wp2_with (at_builtin; refine wp_push 23 rfl (.tmp 39) (.tmp 41) rfl rfl _ _ rfl rfl hrun ?_)
      go_roundg (M - (i + 1))
      case measure => have := HG.out; omega
      case rel => exact ⟨i + 1, A9, p9, by omega, by have := HG.out; omega, rfl, by go_num, H6⟩
    · obtain rfl : i = M := by omega
      have hl1 : ¬ ((i : Int) < (i : Int)) := by omega
      have VS := Lib.hid (VR.of_row HI.out (k := 0) rfl (by rw [iv_len, seg_len]))
      have BW := Lib.hid (loc_blk HI.out (k := 1) rfl)
      have HWr := Lib.hid ((HB.out.trans (H1.out.mono HB.out.size)).trans (HI.out.below.mono (HB.out.trans (H1.out.mono HB.out.size)).size))
      have HNW : Hid (w.heap.size ≤ nw) := Lib.hid (by
        obtain ⟨G, ⟨h1, h2⟩, h3, _⟩ := HI.out.at_ 1 rfl
        have h4 := h3 nw ((h2 nw).2 ⟨_, List.mem_cons_self .., rfl⟩)
        have := HB.out.size
        have := H1.out.size
        omega)
      clear HI
      have hR0 := seg_ok HM.out.2
      have HR0 := Lib.hid hR0
      have hb0' : begins idle (seg i) = some ⟨seg i, -1, 0, 0⟩ := by unfold begins; rw [if_neg (by rintro (h | h | h); exact absurd h (by decide); exact h rfl; exact h hR0)]
      have CB : Hid (∀ X, Below wr.heap.size wr X → Calls Try.prog 22 #[.agg (sc idle none 0), .slice A' i p'] X (OutP X (some ⟨seg i, -1, 0, 0⟩))) := Lib.hid (fun X hX => by
        have h := pbegin_any idle none 0 A' i p' (seg i) X idle_right (VR.nil _ _) (VS.out.later hX) (by have := HM.out; omega)
        rw [hb0'] at h
        exact h)
      clear hR0 hb0'
      go_upto_region 8 with (first
        | (go_at_call 22; refine (CB.out _ H7.out).mono ?_; rintro e8 w8 ⟨A8, p8, rfl, hs⟩; have Q8 := Lib.hid hs; clear hs)
        | (go_at_call 8; refine (pidle_any _).mono ?_; rintro e7 w7 ⟨rfl, hb7⟩; have H7 := Lib.hid hb7; clear hb7))
      have hl0 : left ⟨seg i, -1, 0, 0⟩ q = (i : Int) * (q + 2) := by unfold left; simp only [seg_len]; rw [if_neg (by omega), Int.add_zero]
      have hL0 : 0 ≤ (i : Int) * (q + 2) ∧ (i : Int) * (q + 2) ≤ 480 := by
        have h1 := HM.out
        have h2 := HQ.out
        constructor
        · exact Int.mul_nonneg (by omega) (by omega)
        · have h3 : (i : Int) * (q + 2) ≤ 15 * (q + 2) := Int.mul_le_mul_of_nonneg_right (by omega) (by omega)
          omega
      obtain ⟨L0, hLL⟩ : ∃ L0, (i : Int) * (q + 2) = L0 := ⟨_, rfl⟩
      have wq : IntKind.i64.wrap (q + 2) = q + 2 := IntWalk.i64_in _ (by have := HQ.out; omega)
      rw [hLL] at hl0 hL0
      have wL : IntKind.i64.wrap ((i : Int) * (q + 2)) = L0 := by rw [hLL]; exact IntWalk.i64_in _ (by omega)
      have er0 : (er (some ⟨seg i, -1, 0, 0⟩ : Option St) != 0) = false := rfl
      have eL : (L0 != L0) = false := by simp
      have v8 : VR w8 A8 (seg i).length (iv (seg i)) := VR.of_row Q8.out (k := 0) rfl (iv_len _).symm
      have NB1 := Od.Nb.far v8 (Nat.le_refl _)
      have NB2 : Od.Nb A8 (seg i).length nw := fun _ a ha => by
        have h1 := row_fresh Q8.out (k := 0) rfl a ha
        have h2 := BW.out.lt
        have h3 := H7.out.size
        omega
      have hwb := H7.out.trans (Q8.out.below.mono H7.out.size)
      have hW8 : Below w.heap.size w (w8.alloc (.cells (sc ⟨seg i, -1, 0, 0⟩ A8 p8) 25)) := (HWr.out.trans (hwb.mono HWr.out.size)).trans ((below1 w8 _).mono (HWr.out.trans (hwb.mono HWr.out.size)).size)
      have bw := (BW.out.later hwb).later (below1 w8 (.cells (sc ⟨seg i, -1, 0, 0⟩ A8 p8) 25))
      have E0 : Hid (EB w w8.heap.size nw ⟨seg i, -1, 0, 0⟩ A8 p8 (seg i) (w8.alloc (.cells (sc ⟨seg i, -1, 0, 0⟩ A8 p8) 25))) := Lib.hid ⟨hW8, Sp.Blk.new _ _ _, v8.later (below1 w8 _), ⟨NB1, NB2⟩, fun j hj => ⟨false, by
        rw [bw.cell]
        rcases (by omega : j = 0 ∨ j = 1 ∨ j = 2 ∨ j = 3 ∨ j = 4 ∨ j = 5 ∨ j = 6 ∨ j = 7 ∨ j = 8 ∨ j = 9 ∨ j = 10 ∨ j = 11 ∨ j = 12 ∨ j = 13 ∨ j = 14 ∨ j = 15) with rfl | rfl | rfl | rfl | rfl | rfl | rfl | rfl | rfl | rfl | rfl | rfl | rfl | rfl | rfl | rfl <;> rfl, bw.frozen j, fun _ => rfl⟩⟩
      have EP0 : Hid (EP q i 0 0 ⟨seg i, -1, 0, 0⟩) := Lib.hid ⟨HR0.out, HQ.out.1, by show 0 + (seg i).length = i; rw [seg_len, Nat.zero_add], by rw [hl0]; omega⟩
      have HN12 : Hid (w.heap.size ≤ w8.heap.size ∧ nw ≠ w8.heap.size) := Lib.hid ⟨(HWr.out.trans (hwb.mono HWr.out.size)).size, by have h2 := BW.out.lt; have h3 := hwb.size; omega⟩
      have HLL := Lib.hid hl0
      change Code.wp _ _ _ _ (w8.alloc (.cells (sc ⟨seg i, -1, 0, 0⟩ A8 p8) 25))
      clear v8 NB1 NB2 hwb hW8 bw Q8 H7 BW VS CB hLL hl0 hL0
      generalize w8.alloc (.cells (sc ⟨seg i, -1, 0, 0⟩ A8 p8) 25) = W0 at *
      generalize w8.heap.size = n12 at *
      have k12 := E0.out.k
      have CL := Lib.hid (fun X => pleft_any ⟨seg i, -1, 0, 0⟩ A8 p8 q X HR0.out HQ.out)
      rw [HLL.out] at CL
      go_upto_region 14 with (first
        | (with_reducible refine load_p rfl (.tmp 12) rfl n12 rfl k12 ?_)
        | (go_at_call 14; refine (CL.out _).mono ?_; rintro e9 w9 ⟨rfl, hb9⟩; have Q9 := Lib.hid hb9; clear hb9))
      have E9 := Lib.hid (E0.out.later Q9.out)
      clear E0 k12 CL Q9 wL wq er0 eL
      go_loopg [14, 15, 16] 600 (fun gk s14 s15 s16 wr => ∃ (t tk : Nat) (s : St) (A : Option Addr) (p : Nat), gk = 600 - t ∧ s14 = .int .i64 (left s q) ∧ s15 = .int .i64 (tk : Nat) ∧ s16 = .int .i64 (t : Nat) ∧ Hid (EB w n12 nw s A p s.t wr) ∧ Hid (EP q i t tk s))
      case atStart => exact ⟨0, 0, ⟨seg i, -1, 0, 0⟩, A8, p8, by omega, by rw [HLL.out], rfl, rfl, E9, EP0⟩
      case round =>
        obtain ⟨t, tk, s, A, p, hgk, rfl, rfl, rfl, HE, HP⟩ := hrel
        have HG2 := Lib.hid hgk
        clear hgk E9 EP0
        have hle := HP.out.le
        have hge := left_ge HP.out.r HQ.out.1
        have ht : (t : Int) < 600 := by omega
        have wt : IntKind.i64.wrap ((t : Int) + 1) = (t : Int) + 1 := IntWalk.i64_in _ (by omega)
        have HT := Lib.hid ht
        have hns := next_is s
        obtain ⟨nx, hnx⟩ : ∃ nx, next s false = nx := ⟨_, rfl⟩
        rw [hnx] at hns
        have CN := Lib.hid (fun X => pnext_any s A p false X HP.out.r)
        rw [hnx] at CN
        have HNX := Lib.hid hnx
        have k12 := HE.out.k
        obtain ⟨L1, hL1⟩ : ∃ L1, left s q = L1 := ⟨_, rfl⟩
        have HL1 := Lib.hid hL1
        rw [hL1]
        rw [hL1] at hle hge
        clear hnx hL1
        rcases hns with ⟨rfl, g1, g2⟩ | hns
        · have hid := idle_of HP.out.r g1 g2
          subst hid
          have hz : L1 = 0 := by rw [← HL1.out]; unfold left; simp [idle]
          subst hz
          have htk : tk = i := HP.out.cnt
          subst htk
          clear hle hge g1 g2
          have k0 : wr.cell? ⟨n12, 0, none⟩ = some (.slice A 0 p) := (HE.out.k).cell 0; have k1 : wr.cell? ⟨n12, 1, none⟩ = some (.int .i64 (-1)) := (HE.out.k).cell 1; have k2 : wr.cell? ⟨n12, 2, none⟩ = some (.int .i64 0) := (HE.out.k).cell 2; have k3 : wr.cell? ⟨n12, 3, none⟩ = some (.int .i64 0) := (HE.out.k).cell 3
          have CF : Hid (∀ X, Calls Try.prog 21 #[.agg #[.slice A 0 p, .int .i64 (-1), .int .i64 0, .int .i64 0]] X fun e w' => e = .returned (.agg #[.slice A 0 p, .int .i64 (-1), .int .i64 0, .int .i64 0]) ∧ Below X.heap.size X w') := Lib.hid (fun X => ref_any 0 0 p A (-1) 0 0 X)
          have CN2 : Hid (∀ X, Calls Try.prog 16 #[.agg #[.slice A 0 p, .int .i64 (-1), .int .i64 0, .int .i64 0], .bool false] X fun e w' => e = .returned (.int .i64 0) ∧ Below X.heap.size X w') := Lib.hid (fun X => CN.out X)
          have CE : Hid (∀ X, Calls Try.prog 26 #[.agg #[.slice A 0 p, .int .i64 (-1), .int .i64 0, .int .i64 0], .agg (sc idle none 0)] X fun e w' => e = .returned (.bool true) ∧ Below X.heap.size X w') := Lib.hid (fun X => rsame_any idle idle A p none 0 X (by have := HE.out.va.len; exact ⟨rfl, fun h => absurd h (by decide)⟩) (VR.nil _ _) (by decide) true (by decide))
          clear CN k12
          go_wp2_with (first
            | (go_at_call 18; refine (fixed_any _).mono ?_; rintro e14 w14 ⟨rfl, hb14⟩; have Q14 := Lib.hid (Q13.out.trans (hb14.mono Q13.out.size)); clear hb14)
            | (go_at_call 26; refine (CE.out _).mono ?_; rintro e13 w13 ⟨rfl, hb13⟩; have Q13 := Lib.hid (Q12.out.trans (hb13.mono Q12.out.size)); clear hb13)
            | (go_at_call 9; refine (ridle_any _).mono ?_; rintro e12 w12 ⟨rfl, hb12⟩; have Q12 := Lib.hid (Q11.out.trans (hb12.mono Q11.out.size)); clear hb12)
            | (go_at_call 21; refine (CF.out _).mono ?_; rintro e11 w11 ⟨rfl, hb11⟩; have Q11 := Lib.hid (Q10.out.trans (hb11.mono Q10.out.size)); clear hb11)
            | (go_at_call 16; refine (CN2.out _).mono ?_; rintro e10 w10 ⟨rfl, hb10⟩; have Q10 := Lib.hid hb10; clear hb10 k0 k1 k2 k3; have k0 : w10.cell? ⟨n12, 0, none⟩ = some (.slice A 0 p) := (HE.out.k.later Q10.out).cell 0; have k1 : w10.cell? ⟨n12, 1, none⟩ = some (.int .i64 (-1)) := (HE.out.k.later Q10.out).cell 1; have k2 : w10.cell? ⟨n12, 2, none⟩ = some (.int .i64 0) := (HE.out.k.later Q10.out).cell 2; have k3 : w10.cell? ⟨n12, 3, none⟩ = some (.int .i64 0) := (HE.out.k.later Q10.out).cell 3))
          go_ret
          exact ⟨rfl, HE.out.b.trans (Q14.out.mono HE.out.b.size)⟩
        · have hne : (nx != 0) = true := by rcases hns with ⟨rfl, _⟩ | ⟨rfl, _⟩ | ⟨rfl, _⟩ <;> rfl
          have k0 : wr.cell? ⟨n12, 0, none⟩ = some (.slice A s.t.length p) := (HE.out.k).cell 0; have k1 : wr.cell? ⟨n12, 1, none⟩ = some (.int .i64 s.v) := (HE.out.k).cell 1; have k2 : wr.cell? ⟨n12, 2, none⟩ = some (.int .i64 s.c) := (HE.out.k).cell 2; have k3 : wr.cell? ⟨n12, 3, none⟩ = some (.int .i64 s.n) := (HE.out.k).cell 3
          go_upto_region 17 with (first
            | (go_at_call 16; refine (CN.out _).mono ?_; rintro e10 w10 ⟨rfl, hb10⟩; have Q10 := Lib.hid hb10; clear hb10 k0 k1 k2 k3; have k0 : w10.cell? ⟨n12, 0, none⟩ = some (.slice A s.t.length p) := (HE.out.k.later Q10.out).cell 0; have k1 : w10.cell? ⟨n12, 1, none⟩ = some (.int .i64 s.v) := (HE.out.k.later Q10.out).cell 1; have k2 : w10.cell? ⟨n12, 2, none⟩ = some (.int .i64 s.c) := (HE.out.k.later Q10.out).cell 2; have k3 : w10.cell? ⟨n12, 3, none⟩ = some (.int .i64 s.n) := (HE.out.k.later Q10.out).cell 3))
          change Code.wp _ _ _ _ (w10.alloc (.cells (sc s A p) 25))
          have E10 := HE.out.later Q10.out
          have N17 : Hid (w10.heap.size ≠ n12 ∧ w10.heap.size ≠ nw ∧ w.heap.size ≤ w10.heap.size) := Lib.hid (by
            obtain ⟨β, e1, _⟩ := E10.wc 0 (by omega)
            have l3 := World.block_lt_of_cell? _ _ e1
            have l2 := E10.k.lt
            simp only at l3
            exact ⟨by omega, by omega, E10.b.size⟩)
          have NA17 := Lib.hid (Od.Nb.far E10.va (Nat.le_refl _))
          have E11 := Lib.hid (E10.later (below1 w10 (.cells (sc s A p) 25)))
          have K17 : Hid (Sp.Blk (w10.alloc (.cells (sc s A p) 25)) w10.heap.size 25 (sc s A p)) := Lib.hid (Sp.Blk.new _ _ _)
          clear E10 k0 k1 k2 k3 k12 Q10
          generalize w10.alloc (.cells (sc s A p) 25) = W11 at *
          generalize w10.heap.size = n17 at *
          clear w10
          have k0 : W11.cell? ⟨n12, 0, none⟩ = some (.slice A s.t.length p) := (E11.out.k).cell 0; have k1 : W11.cell? ⟨n12, 1, none⟩ = some (.int .i64 s.v) := (E11.out.k).cell 1; have k2 : W11.cell? ⟨n12, 2, none⟩ = some (.int .i64 s.c) := (E11.out.k).cell 2; have k3 : W11.cell? ⟨n12, 3, none⟩ = some (.int .i64 s.n) := (E11.out.k).cell 3
          rcases hns with ⟨rfl, g1, g2⟩ | ⟨rfl, g1⟩ | ⟨rfl, g1⟩
          · have hv1 : s.v = -1 := by
              have h := HP.out.r.v
              unfold VicOk at h
              omega
            have hlen0 : 0 < s.t.length := List.length_pos_iff.2 g2
            have d0 : ¬ ((s.t.length : Int) = 0) := by omega
            have d0' : ((s.t.length : Int) == 0) = false := by simpa using g2
            have LN := Lib.hid hlen0
            have HV := Lib.hid hv1
            clear g1 g2 hlen0 hv1
            by_cases hp : tk < n2
            · have hp1 : (tk : Int) < n2 := by omega
              have hp2 : decide ((tk : Int) < n2) = true := decide_eq_true hp1
              go_upto_region 24 with (first
                | (go_at_call 16; refine (CN.out _).mono ?_; rintro e12 w12 ⟨rfl, hb12⟩; have Q12 := Lib.hid hb12; clear hb12 k0 k1 k2 k3; have k0 : w12.cell? ⟨n12, 0, none⟩ = some (.slice A s.t.length p) := (E11.out.k.later Q12.out).cell 0; have k1 : w12.cell? ⟨n12, 1, none⟩ = some (.int .i64 s.v) := (E11.out.k.later Q12.out).cell 1; have k2 : w12.cell? ⟨n12, 2, none⟩ = some (.int .i64 s.c) := (E11.out.k.later Q12.out).cell 2; have k3 : w12.cell? ⟨n12, 3, none⟩ = some (.int .i64 s.n) := (E11.out.k.later Q12.out).cell 3))
              obtain ⟨g2, o2, rfl, c2, lo2, hi2⟩ := P2.out w12 tk (E11.out.later Q12.out).b hp
              have x0 : ∀ jj : In (fun X => Below w12.heap.size w12 X), jj.W.cell? ⟨g2, o2 + tk, none⟩ = some (.int .u8 (f2 tk)) := fun jj => (jj.h.cell (World.block_lt_of_cell? _ _ c2)).trans c2
              have x1 : ∀ jj : In (fun X => Below w12.heap.size w12 X), jj.W.cell? ⟨n12, 0, none⟩ = some (.slice A s.t.length p) := fun jj => ((E11.out.k.later Q12.out).later jj.h).cell 0
              obtain ⟨kk, hkk⟩ : ∃ kk : Nat, (f2 tk).tmod (s.t.length : Int) = (kk : Int) := ⟨((f2 tk).tmod (s.t.length : Int)).toNat, by
                have := Int.tmod_nonneg (s.t.length : Int) lo2
                omega⟩
              have hkl : kk < s.t.length := by
                have := Int.tmod_lt_of_pos (f2 tk) (b := (s.t.length : Int)) (by have := LN.out; omega)
                omega
              have HK := Lib.hid hkl
              clear hkl
              have I : Below w12.heap.size w12 { w12 with drawn := w12.drawn + 1 } := (Below.refl _ _).drew
              have hne : Nonempty (In (fun X => Below w12.heap.size w12 X)) := ⟨⟨_, I⟩⟩
              refine region_class (fun X => Below w12.heap.size w12 X) (by kernel_rfl) (by kernel_rfl) I ?_
              repeat (go_big_quiet_step (fail))
              refine wpQuiet_nil ?_
              rintro _ ⟨jj, rfl⟩
              have HD := Lib.hid jj.h
              clear I hne x0 x1 c2
              generalize jj.W = W12 at *
              clear jj
              try rw [hkk]
              clear hkk hp1 hp2 hp
              have E12 := Lib.hid ((E11.out.later Q12.out).later HD.out)
              have K12 := Lib.hid ((K17.out.later Q12.out).later HD.out)
              have Q12 := Lib.hid (Q12.out.trans (HD.out.mono Q12.out.size))
              clear HD k0 k1 k2 k3 lo2 hi2
              by_cases hl : tk < n1
              · have hl1 : (tk : Int) < n1 := by omega
                have hl2 : decide ((tk : Int) < n1) = true := decide_eq_true hl1
                obtain ⟨g1, o1, rfl, c1', lo1, hi1⟩ := P1.out W12 tk E12.out.b hl
                obtain ⟨mm, hmm⟩ : ∃ mm, min (f1 tk) q = mm := ⟨_, rfl⟩
                have HMM : Hid (0 ≤ mm ∧ mm ≤ q) := Lib.hid (by have := HQ.out; omega)
                go_upto_region 28 with fail
                try rw [hmm]
                clear hl hl1 hl2 c1' lo1 hi1 hmm
                obtain ⟨ga, oa, hA', hc⟩ := E12.out.va.c LN.out
                subst hA'
                obtain ⟨x, hx⟩ : ∃ x, s.t[kk]? = some x := ⟨_, List.getElem?_eq_getElem HK.out⟩
                have hxm : x ∈ s.t := List.mem_of_getElem? hx
                have hxb := HP.out.r.t.1 x hxm
                obtain ⟨j, rfl⟩ : ∃ j : Nat, x = (j : Int) := ⟨x.toNat, by omega⟩
                have hj : j < 16 := by omega
                have hcx : W12.cell? ⟨ga, oa + kk, none⟩ = some (.int .i64 (j : Int)) := hc kk _ (by unfold iv; rw [List.getElem?_map, hx]; rfl)
                obtain ⟨β, hw1, hw2, hw3⟩ := E12.out.wc j hj
                have hb0 := hw3 hxm
                subst hb0
                have HXM := Lib.hid hxm
                have HJ := Lib.hid hj
                have t1 : ¬ ((j : Int) < 0) := by omega
                have t1' : decide ((j : Int) < 0) = false := decide_eq_false t1
                have t2 : ¬ ((15 : Int) < (j : Int)) := by omega
                have t2' : decide ((15 : Int) < (j : Int)) = false := decide_eq_false t2
                have t3 : (j : Int) < 16 := by omega
                have wk : IntKind.i64.wrap ((tk : Int) + 1) = (tk : Int) + 1 := IntWalk.i64_in _ (by have h1 := HP.out.cnt; have h2 := HM.out; omega)
                have k0 : W12.cell? ⟨n12, 0, none⟩ = some (.slice (some ⟨ga, oa, none⟩) s.t.length p) := (E12.out.k).cell 0; have k1 : W12.cell? ⟨n12, 1, none⟩ = some (.int .i64 s.v) := (E12.out.k).cell 1; have k2 : W12.cell? ⟨n12, 2, none⟩ = some (.int .i64 s.c) := (E12.out.k).cell 2; have k3 : W12.cell? ⟨n12, 3, none⟩ = some (.int .i64 s.n) := (E12.out.k).cell 3
                clear hc hx hxb hw3 hxm
                go_upto_region 33 with fail
                have E13 : Hid (EB w n12 nw s (some ⟨ga, oa, none⟩) p (less s.t (j : Int)) (W12.setCell ⟨nw, j, none⟩ (.bool true))) := Lib.hid (E12.out.set HN12.out.2 HNW.out HJ.out)
                have K13 : Hid (Sp.Blk (W12.setCell ⟨nw, j, none⟩ (.bool true)) n17 25 (sc s (some ⟨ga, oa, none⟩) p)) := Lib.hid (blk_set K12.out (fun h => N17.out.2.1 h.symm) _)
                have Q13 := Lib.hid (Below.refl (W12.setCell ⟨nw, j, none⟩ (.bool true)).heap.size (W12.setCell ⟨nw, j, none⟩ (.bool true)))
                clear k0 k1 k2 k3 hcx hw1 hw2 t1 t1' t2 t2' t3 wk
                clear E11 K17 E12 K12
                generalize W12.setCell ⟨nw, j, none⟩ (.bool true) = W13 at *
                have E11 := E13
                have K17 := K13
                have k0 : W13.cell? ⟨n12, 0, none⟩ = some (.slice (some ⟨ga, oa, none⟩) s.t.length p) := (E13.out.k).cell 0; have k1 : W13.cell? ⟨n12, 1, none⟩ = some (.int .i64 s.v) := (E13.out.k).cell 1; have k2 : W13.cell? ⟨n12, 2, none⟩ = some (.int .i64 s.c) := (E13.out.k).cell 2; have k3 : W13.cell? ⟨n12, 3, none⟩ = some (.int .i64 s.n) := (E13.out.k).cell 3
                obtain ⟨r, hr⟩ : ∃ r : St, r = ⟨less s.t (j : Int), (j : Int), 0, mm⟩ := ⟨_, rfl⟩
                have hs : takes s (j : Int) mm = some r := by
                  rw [hr]
                  unfold takes
                  rw [if_neg]
                  rintro (h | h | h | h)
                  · have := HV.out; omega
                  · exact h HXM.out
                  · have := HMM.out; omega
                  · have h1 := HMM.out; have h2 := HQ.out; omega
                have hlf := take_left (m := mm) (q := q) HP.out.r HV.out HXM.out HMM.out.1 HMM.out.2 (by omega)
                have HRr := Lib.hid (takes_right HP.out.r hs)
                have HLT : Hid (left r q < left s q) := Lib.hid (by rw [hr]; exact hlf.1)
                have HNN : Hid (r.n ≤ q) := Lib.hid (by rw [hr]; exact HMM.out.2)
                have HCNT : Hid ((tk + 1) + r.t.length = i) := Lib.hid (by rw [hr]; have h1 := hlf.2; have h2 := HP.out.cnt; simp only; omega)
                have E13r : Hid (EB w n12 nw s (some ⟨ga, oa, none⟩) p r.t W13) := Lib.hid (by rw [hr]; exact E13.out)
                have CS : Hid (∀ X, Below W13.heap.size W13 X → Calls Try.prog 23 #[.agg (sc s (some ⟨ga, oa, none⟩) p), .int .i64 (j : Int), .int .i64 mm] X (OutP X (some r))) := Lib.hid (fun X hX => by
                  have h := ptake_any s (some ⟨ga, oa, none⟩) p (j : Int) mm X HP.out.r (E13.out.va.later hX)
                  rw [hs] at h
                  exact h)
                clear hr hs hlf HMM HK HXM
                have HBB := Lib.hid (Below.refl W13.heap.size W13)
                go_upto_region 36 with (first
                  | (go_at_call 23; refine (CS.out _ (Below.refl _ _)).mono ?_; rintro e13 w13 ⟨A9, p9, rfl, hs⟩; have Q13 := Lib.hid hs; have x17 := K17.out.later hs.below; clear hs)
                  | (with_reducible refine store_p rfl (.tmp 17) (.tmp 134) rfl n17 rfl rfl x17 ?_))
                have hb13 := Q13.out.below
                have v9 : VR w13 A9 r.t.length (iv r.t) := VR.of_row Q13.out (k := 0) rfl (iv_len _).symm
                have N9 : Hid ((Od.Nb A9 r.t.length n12 ∧ Od.Nb A9 r.t.length nw) ∧ Od.Nb A9 r.t.length n17) := Lib.hid (by
                  have hs := HBB.out.size
                  have l1 := K17.out.lt
                  have l2 := E13.out.k.lt
                  obtain ⟨β, e1, _⟩ := E13.out.wc 0 (by omega)
                  have l3 := World.block_lt_of_cell? _ _ e1
                  simp only at l3
                  refine ⟨⟨fun _ a ha => ?_, fun _ a ha => ?_⟩, fun _ a ha => ?_⟩ <;> (have h1 := row_fresh Q13.out (k := 0) rfl a ha; omega))
                have E14 : Hid (EB w n12 nw s (some ⟨ga, oa, none⟩) p r.t (w13.setRow n17 (sc r A9 p9))) := Lib.hid ((E13r.out.later hb13).row N17.out.1 N17.out.2.1 N17.out.2.2 NA17.out _)
                have K14 : Hid (Sp.Blk (w13.setRow n17 (sc r A9 p9)) n17 25 (sc r A9 p9)) := Lib.hid (x17.row _)
                have V14 := Lib.hid (Od.Nb.row v9 N9.out.2 (sc r A9 p9))
                change Code.wp _ _ _ _ (w13.setRow n17 (sc r A9 p9))
                clear v9 hb13 Q13 x17 k0 k1 k2 k3
                generalize w13.setRow n17 (sc r A9 p9) = W14 at *
                clear w13
                have z1 : (er (some r) != 0) = false := rfl
                obtain ⟨L2, hL2⟩ : ∃ L2, left r q = L2 := ⟨_, rfl⟩
                have HL2 := Lib.hid hL2
                have CL := Lib.hid (fun X => pleft_any r A9 p9 q X HRr.out HQ.out)
                rw [hL2] at CL
                have CR : Hid (∀ X, Below W14.heap.size W14 X → Calls Try.prog 11 #[.agg (sc r A9 p9)] X fun e w' => e = .returned (.bool true) ∧ Below X.heap.size X w') := Lib.hid (fun X hX => by
                  have h := pright_any r A9 p9 X (V14.out.later hX) (by have := right_len HRr.out; omega)
                  rw [decide_eq_true HRr.out] at h
                  exact h)
                have hlt2 := HLT.out
                rw [HL1.out, hL2] at hlt2
                have hge2 := left_ge HRr.out HQ.out.1
                rw [hL2] at hge2
                have l1 : ¬ (L1 ≤ L2) := by omega
                have l1' : decide (L1 ≤ L2) = false := decide_eq_false l1
                have l2 : ¬ (L2 < 0) := by omega
                have l2' : decide (L2 < 0) = false := decide_eq_false l2
                have HLE2 := Lib.hid hlt2
                clear hL2 hlt2
                have u0 : W14.cell? ⟨n17, 0, none⟩ = some (.slice A9 r.t.length p9) := (K14.out).cell 0; have u1 : W14.cell? ⟨n17, 1, none⟩ = some (.int .i64 r.v) := (K14.out).cell 1; have u2 : W14.cell? ⟨n17, 2, none⟩ = some (.int .i64 r.c) := (K14.out).cell 2; have u3 : W14.cell? ⟨n17, 3, none⟩ = some (.int .i64 r.n) := (K14.out).cell 3
                go_upto_region 39 with (first
                  | (go_at_call 11; refine (CR.out _ Q15.out).mono ?_; rintro e16 w16 ⟨rfl, hb16⟩; have Q16 := Lib.hid (Q15.out.trans (hb16.mono Q15.out.size)); clear hb16 u0 u1 u2 u3)
                  | (go_at_call 14; refine (CL.out _).mono ?_; rintro e15 w15 ⟨rfl, hb15⟩; have Q15 := Lib.hid hb15; clear hb15 u0 u1 u2 u3; have u0 : w15.cell? ⟨n17, 0, none⟩ = some (.slice A9 r.t.length p9) := (K14.out.later Q15.out).cell 0; have u1 : w15.cell? ⟨n17, 1, none⟩ = some (.int .i64 r.v) := (K14.out.later Q15.out).cell 1; have u2 : w15.cell? ⟨n17, 2, none⟩ = some (.int .i64 r.c) := (K14.out.later Q15.out).cell 2; have u3 : w15.cell? ⟨n17, 3, none⟩ = some (.int .i64 r.n) := (K14.out.later Q15.out).cell 3))
                have x16 := K14.out.later Q16.out
                have E16 := E14.out.later Q16.out
                have k16 := E16.k
                go_wp2_with (first
                  | (with_reducible refine load_p rfl (.tmp 17) rfl n17 rfl x16 ?_)
                  | (with_reducible refine store_p rfl (.tmp 12) (.tmp 163) rfl n12 rfl rfl k16 ?_))
                go_roundg (600 - (t + 1))
                case measure => have := HG2.out; have := HT.out; omega
                case rel =>
                  refine ⟨t + 1, (tk + 1), r, A9, p9, by have := HG2.out; omega, by rw [HL2.out], by go_num, by go_num, Lib.hid (E16.fin (V14.out.later Q16.out) HN12.out.2 HN12.out.1 N9.out.1), Lib.hid ⟨HRr.out, HNN.out, HCNT.out, by have h1 := HP.out.le; have h2 := HLE2.out; rw [HL1.out] at h1; rw [HL2.out]; omega⟩⟩
              · have hl1 : ¬ ((tk : Int) < n1) := by omega
                have hl2 : decide ((tk : Int) < n1) = false := decide_eq_false hl1
                have HMM : Hid ((0 : Int) ≤ 0 ∧ 0 ≤ q) := Lib.hid (by have := HQ.out; omega)
                go_upto_region 28 with fail
                clear hl hl1 hl2
                obtain ⟨ga, oa, hA', hc⟩ := E12.out.va.c LN.out
                subst hA'
                obtain ⟨x, hx⟩ : ∃ x, s.t[kk]? = some x := ⟨_, List.getElem?_eq_getElem HK.out⟩
                have hxm : x ∈ s.t := List.mem_of_getElem? hx
                have hxb := HP.out.r.t.1 x hxm
                obtain ⟨j, rfl⟩ : ∃ j : Nat, x = (j : Int) := ⟨x.toNat, by omega⟩
                have hj : j < 16 := by omega
                have hcx : W12.cell? ⟨ga, oa + kk, none⟩ = some (.int .i64 (j : Int)) := hc kk _ (by unfold iv; rw [List.getElem?_map, hx]; rfl)
                obtain ⟨β, hw1, hw2, hw3⟩ := E12.out.wc j hj
                have hb0 := hw3 hxm
                subst hb0
                have HXM := Lib.hid hxm
                have HJ := Lib.hid hj
                have t1 : ¬ ((j : Int) < 0) := by omega
                have t1' : decide ((j : Int) < 0) = false := decide_eq_false t1
                have t2 : ¬ ((15 : Int) < (j : Int)) := by omega
                have t2' : decide ((15 : Int) < (j : Int)) = false := decide_eq_false t2
                have t3 : (j : Int) < 16 := by omega
                have wk : IntKind.i64.wrap ((tk : Int) + 1) = (tk : Int) + 1 := IntWalk.i64_in _ (by have h1 := HP.out.cnt; have h2 := HM.out; omega)
                have k0 : W12.cell? ⟨n12, 0, none⟩ = some (.slice (some ⟨ga, oa, none⟩) s.t.length p) := (E12.out.k).cell 0; have k1 : W12.cell? ⟨n12, 1, none⟩ = some (.int .i64 s.v) := (E12.out.k).cell 1; have k2 : W12.cell? ⟨n12, 2, none⟩ = some (.int .i64 s.c) := (E12.out.k).cell 2; have k3 : W12.cell? ⟨n12, 3, none⟩ = some (.int .i64 s.n) := (E12.out.k).cell 3
                clear hc hx hxb hw3 hxm
                go_upto_region 33 with fail
                have E13 : Hid (EB w n12 nw s (some ⟨ga, oa, none⟩) p (less s.t (j : Int)) (W12.setCell ⟨nw, j, none⟩ (.bool true))) := Lib.hid (E12.out.set HN12.out.2 HNW.out HJ.out)
                have K13 : Hid (Sp.Blk (W12.setCell ⟨nw, j, none⟩ (.bool true)) n17 25 (sc s (some ⟨ga, oa, none⟩) p)) := Lib.hid (blk_set K12.out (fun h => N17.out.2.1 h.symm) _)
                have Q13 := Lib.hid (Below.refl (W12.setCell ⟨nw, j, none⟩ (.bool true)).heap.size (W12.setCell ⟨nw, j, none⟩ (.bool true)))
                clear k0 k1 k2 k3 hcx hw1 hw2 t1 t1' t2 t2' t3 wk
                clear E11 K17 E12 K12
                generalize W12.setCell ⟨nw, j, none⟩ (.bool true) = W13 at *
                have E11 := E13
                have K17 := K13
                have k0 : W13.cell? ⟨n12, 0, none⟩ = some (.slice (some ⟨ga, oa, none⟩) s.t.length p) := (E13.out.k).cell 0; have k1 : W13.cell? ⟨n12, 1, none⟩ = some (.int .i64 s.v) := (E13.out.k).cell 1; have k2 : W13.cell? ⟨n12, 2, none⟩ = some (.int .i64 s.c) := (E13.out.k).cell 2; have k3 : W13.cell? ⟨n12, 3, none⟩ = some (.int .i64 s.n) := (E13.out.k).cell 3
                obtain ⟨r, hr⟩ : ∃ r : St, r = ⟨less s.t (j : Int), (j : Int), 0, 0⟩ := ⟨_, rfl⟩
                have hs : takes s (j : Int) 0 = some r := by
                  rw [hr]
                  unfold takes
                  rw [if_neg]
                  rintro (h | h | h | h)
                  · have := HV.out; omega
                  · exact h HXM.out
                  · have := HMM.out; omega
                  · have h1 := HMM.out; have h2 := HQ.out; omega
                have hlf := take_left (m := 0) (q := q) HP.out.r HV.out HXM.out HMM.out.1 HMM.out.2 (by omega)
                have HRr := Lib.hid (takes_right HP.out.r hs)
                have HLT : Hid (left r q < left s q) := Lib.hid (by rw [hr]; exact hlf.1)
                have HNN : Hid (r.n ≤ q) := Lib.hid (by rw [hr]; exact HMM.out.2)
                have HCNT : Hid ((tk + 1) + r.t.length = i) := Lib.hid (by rw [hr]; have h1 := hlf.2; have h2 := HP.out.cnt; simp only; omega)
                have E13r : Hid (EB w n12 nw s (some ⟨ga, oa, none⟩) p r.t W13) := Lib.hid (by rw [hr]; exact E13.out)
                have CS : Hid (∀ X, Below W13.heap.size W13 X → Calls Try.prog 23 #[.agg (sc s (some ⟨ga, oa, none⟩) p), .int .i64 (j : Int), .int .i64 0] X (OutP X (some r))) := Lib.hid (fun X hX => by
                  have h := ptake_any s (some ⟨ga, oa, none⟩) p (j : Int) 0 X HP.out.r (E13.out.va.later hX)
                  rw [hs] at h
                  exact h)
                clear hr hs hlf HMM HK HXM
                have HBB := Lib.hid (Below.refl W13.heap.size W13)
                go_upto_region 36 with (first
                  | (go_at_call 23; refine (CS.out _ (Below.refl _ _)).mono ?_; rintro e13 w13 ⟨A9, p9, rfl, hs⟩; have Q13 := Lib.hid hs; have x17 := K17.out.later hs.below; clear hs)
                  | (with_reducible refine store_p rfl (.tmp 17) (.tmp 134) rfl n17 rfl rfl x17 ?_))
                have hb13 := Q13.out.below
                have v9 : VR w13 A9 r.t.length (iv r.t) := VR.of_row Q13.out (k := 0) rfl (iv_len _).symm
                have N9 : Hid ((Od.Nb A9 r.t.length n12 ∧ Od.Nb A9 r.t.length nw) ∧ Od.Nb A9 r.t.length n17) := Lib.hid (by
                  have hs := HBB.out.size
                  have l1 := K17.out.lt
                  have l2 := E13.out.k.lt
                  obtain ⟨β, e1, _⟩ := E13.out.wc 0 (by omega)
                  have l3 := World.block_lt_of_cell? _ _ e1
                  simp only at l3
                  refine ⟨⟨fun _ a ha => ?_, fun _ a ha => ?_⟩, fun _ a ha => ?_⟩ <;> (have h1 := row_fresh Q13.out (k := 0) rfl a ha; omega))
                have E14 : Hid (EB w n12 nw s (some ⟨ga, oa, none⟩) p r.t (w13.setRow n17 (sc r A9 p9))) := Lib.hid ((E13r.out.later hb13).row N17.out.1 N17.out.2.1 N17.out.2.2 NA17.out _)
                have K14 : Hid (Sp.Blk (w13.setRow n17 (sc r A9 p9)) n17 25 (sc r A9 p9)) := Lib.hid (x17.row _)
                have V14 := Lib.hid (Od.Nb.row v9 N9.out.2 (sc r A9 p9))
                change Code.wp _ _ _ _ (w13.setRow n17 (sc r A9 p9))
                clear v9 hb13 Q13 x17 k0 k1 k2 k3
                generalize w13.setRow n17 (sc r A9 p9) = W14 at *
                clear w13
                have z1 : (er (some r) != 0) = false := rfl
                obtain ⟨L2, hL2⟩ : ∃ L2, left r q = L2 := ⟨_, rfl⟩
                have HL2 := Lib.hid hL2
                have CL := Lib.hid (fun X => pleft_any r A9 p9 q X HRr.out HQ.out)
                rw [hL2] at CL
                have CR : Hid (∀ X, Below W14.heap.size W14 X → Calls Try.prog 11 #[.agg (sc r A9 p9)] X fun e w' => e = .returned (.bool true) ∧ Below X.heap.size X w') := Lib.hid (fun X hX => by
                  have h := pright_any r A9 p9 X (V14.out.later hX) (by have := right_len HRr.out; omega)
                  rw [decide_eq_true HRr.out] at h
                  exact h)
                have hlt2 := HLT.out
                rw [HL1.out, hL2] at hlt2
                have hge2 := left_ge HRr.out HQ.out.1
                rw [hL2] at hge2
                have l1 : ¬ (L1 ≤ L2) := by omega
                have l1' : decide (L1 ≤ L2) = false := decide_eq_false l1
                have l2 : ¬ (L2 < 0) := by omega
                have l2' : decide (L2 < 0) = false := decide_eq_false l2
                have HLE2 := Lib.hid hlt2
                clear hL2 hlt2
                have u0 : W14.cell? ⟨n17, 0, none⟩ = some (.slice A9 r.t.length p9) := (K14.out).cell 0; have u1 : W14.cell? ⟨n17, 1, none⟩ = some (.int .i64 r.v) := (K14.out).cell 1; have u2 : W14.cell? ⟨n17, 2, none⟩ = some (.int .i64 r.c) := (K14.out).cell 2; have u3 : W14.cell? ⟨n17, 3, none⟩ = some (.int .i64 r.n) := (K14.out).cell 3
                go_upto_region 39 with (first
                  | (go_at_call 11; refine (CR.out _ Q15.out).mono ?_; rintro e16 w16 ⟨rfl, hb16⟩; have Q16 := Lib.hid (Q15.out.trans (hb16.mono Q15.out.size)); clear hb16 u0 u1 u2 u3)
                  | (go_at_call 14; refine (CL.out _).mono ?_; rintro e15 w15 ⟨rfl, hb15⟩; have Q15 := Lib.hid hb15; clear hb15 u0 u1 u2 u3; have u0 : w15.cell? ⟨n17, 0, none⟩ = some (.slice A9 r.t.length p9) := (K14.out.later Q15.out).cell 0; have u1 : w15.cell? ⟨n17, 1, none⟩ = some (.int .i64 r.v) := (K14.out.later Q15.out).cell 1; have u2 : w15.cell? ⟨n17, 2, none⟩ = some (.int .i64 r.c) := (K14.out.later Q15.out).cell 2; have u3 : w15.cell? ⟨n17, 3, none⟩ = some (.int .i64 r.n) := (K14.out.later Q15.out).cell 3))
                have x16 := K14.out.later Q16.out
                have E16 := E14.out.later Q16.out
                have k16 := E16.k
                go_wp2_with (first
                  | (with_reducible refine load_p rfl (.tmp 17) rfl n17 rfl x16 ?_)
                  | (with_reducible refine store_p rfl (.tmp 12) (.tmp 163) rfl n12 rfl rfl k16 ?_))
                go_roundg (600 - (t + 1))
                case measure => have := HG2.out; have := HT.out; omega
                case rel =>
                  refine ⟨t + 1, (tk + 1), r, A9, p9, by have := HG2.out; omega, by rw [HL2.out], by go_num, by go_num, Lib.hid (E16.fin (V14.out.later Q16.out) HN12.out.2 HN12.out.1 N9.out.1), Lib.hid ⟨HRr.out, HNN.out, HCNT.out, by have h1 := HP.out.le; have h2 := HLE2.out; rw [HL1.out] at h1; rw [HL2.out]; omega⟩⟩
            · have hp1 : ¬ ((tk : Int) < n2) := by omega
              have hp2 : decide ((tk : Int) < n2) = false := decide_eq_false hp1
              go_upto_region 26 with (first
                | (go_at_call 16; refine (CN.out _).mono ?_; rintro e12 w12 ⟨rfl, hb12⟩; have Q12 := Lib.hid hb12; clear hb12 k0 k1 k2 k3; have k0 : w12.cell? ⟨n12, 0, none⟩ = some (.slice A s.t.length p) := (E11.out.k.later Q12.out).cell 0; have k1 : w12.cell? ⟨n12, 1, none⟩ = some (.int .i64 s.v) := (E11.out.k.later Q12.out).cell 1; have k2 : w12.cell? ⟨n12, 2, none⟩ = some (.int .i64 s.c) := (E11.out.k.later Q12.out).cell 2; have k3 : w12.cell? ⟨n12, 3, none⟩ = some (.int .i64 s.n) := (E11.out.k.later Q12.out).cell 3))
              have E12 := Lib.hid (E11.out.later Q12.out)
              have K12 := Lib.hid (K17.out.later Q12.out)
              have HK : Hid (0 < s.t.length) := LN
              clear hp1 hp2 hp k0 k1 k2 k3
              generalize w12 = W12 at *
              by_cases hl : tk < n1
              · have hl1 : (tk : Int) < n1 := by omega
                have hl2 : decide ((tk : Int) < n1) = true := decide_eq_true hl1
                obtain ⟨g1, o1, rfl, c1', lo1, hi1⟩ := P1.out W12 tk E12.out.b hl
                obtain ⟨mm, hmm⟩ : ∃ mm, min (f1 tk) q = mm := ⟨_, rfl⟩
                have HMM : Hid (0 ≤ mm ∧ mm ≤ q) := Lib.hid (by have := HQ.out; omega)
                go_upto_region 28 with fail
                try rw [hmm]
                clear hl hl1 hl2 c1' lo1 hi1 hmm
                obtain ⟨ga, oa, hA', hc⟩ := E12.out.va.c LN.out
                subst hA'
                obtain ⟨x, hx⟩ : ∃ x, s.t[0]? = some x := ⟨_, List.getElem?_eq_getElem HK.out⟩
                have hxm : x ∈ s.t := List.mem_of_getElem? hx
                have hxb := HP.out.r.t.1 x hxm
                obtain ⟨j, rfl⟩ : ∃ j : Nat, x = (j : Int) := ⟨x.toNat, by omega⟩
                have hj : j < 16 := by omega
                have hcx : W12.cell? ⟨ga, oa, none⟩ = some (.int .i64 (j : Int)) := hc 0 _ (by unfold iv; rw [List.getElem?_map, hx]; rfl)
                obtain ⟨β, hw1, hw2, hw3⟩ := E12.out.wc j hj
                have hb0 := hw3 hxm
                subst hb0
                have HXM := Lib.hid hxm
                have HJ := Lib.hid hj
                have t1 : ¬ ((j : Int) < 0) := by omega
                have t1' : decide ((j : Int) < 0) = false := decide_eq_false t1
                have t2 : ¬ ((15 : Int) < (j : Int)) := by omega
                have t2' : decide ((15 : Int) < (j : Int)) = false := decide_eq_false t2
                have t3 : (j : Int) < 16 := by omega
                have wk : IntKind.i64.wrap ((tk : Int) + 1) = (tk : Int) + 1 := IntWalk.i64_in _ (by have h1 := HP.out.cnt; have h2 := HM.out; omega)
                have k0 : W12.cell? ⟨n12, 0, none⟩ = some (.slice (some ⟨ga, oa, none⟩) s.t.length p) := (E12.out.k).cell 0; have k1 : W12.cell? ⟨n12, 1, none⟩ = some (.int .i64 s.v) := (E12.out.k).cell 1; have k2 : W12.cell? ⟨n12, 2, none⟩ = some (.int .i64 s.c) := (E12.out.k).cell 2; have k3 : W12.cell? ⟨n12, 3, none⟩ = some (.int .i64 s.n) := (E12.out.k).cell 3
                clear hc hx hxb hw3 hxm
                go_upto_region 33 with fail
                have E13 : Hid (EB w n12 nw s (some ⟨ga, oa, none⟩) p (less s.t (j : Int)) (W12.setCell ⟨nw, j, none⟩ (.bool true))) := Lib.hid (E12.out.set HN12.out.2 HNW.out HJ.out)
                have K13 : Hid (Sp.Blk (W12.setCell ⟨nw, j, none⟩ (.bool true)) n17 25 (sc s (some ⟨ga, oa, none⟩) p)) := Lib.hid (blk_set K12.out (fun h => N17.out.2.1 h.symm) _)
                have Q13 := Lib.hid (Below.refl (W12.setCell ⟨nw, j, none⟩ (.bool true)).heap.size (W12.setCell ⟨nw, j, none⟩ (.bool true)))
                clear k0 k1 k2 k3 hcx hw1 hw2 t1 t1' t2 t2' t3 wk
                clear E11 K17 E12 K12
                generalize W12.setCell ⟨nw, j, none⟩ (.bool true) = W13 at *
                have E11 := E13
                have K17 := K13
                have k0 : W13.cell? ⟨n12, 0, none⟩ = some (.slice (some ⟨ga, oa, none⟩) s.t.length p) := (E13.out.k).cell 0; have k1 : W13.cell? ⟨n12, 1, none⟩ = some (.int .i64 s.v) := (E13.out.k).cell 1; have k2 : W13.cell? ⟨n12, 2, none⟩ = some (.int .i64 s.c) := (E13.out.k).cell 2; have k3 : W13.cell? ⟨n12, 3, none⟩ = some (.int .i64 s.n) := (E13.out.k).cell 3
                obtain ⟨r, hr⟩ : ∃ r : St, r = ⟨less s.t (j : Int), (j : Int), 0, mm⟩ := ⟨_, rfl⟩
                have hs : takes s (j : Int) mm = some r := by
                  rw [hr]
                  unfold takes
                  rw [if_neg]
                  rintro (h | h | h | h)
                  · have := HV.out; omega
                  · exact h HXM.out
                  · have := HMM.out; omega
                  · have h1 := HMM.out; have h2 := HQ.out; omega
                have hlf := take_left (m := mm) (q := q) HP.out.r HV.out HXM.out HMM.out.1 HMM.out.2 (by omega)
                have HRr := Lib.hid (takes_right HP.out.r hs)
                have HLT : Hid (left r q < left s q) := Lib.hid (by rw [hr]; exact hlf.1)
                have HNN : Hid (r.n ≤ q) := Lib.hid (by rw [hr]; exact HMM.out.2)
                have HCNT : Hid ((tk + 1) + r.t.length = i) := Lib.hid (by rw [hr]; have h1 := hlf.2; have h2 := HP.out.cnt; simp only; omega)
                have E13r : Hid (EB w n12 nw s (some ⟨ga, oa, none⟩) p r.t W13) := Lib.hid (by rw [hr]; exact E13.out)
                have CS : Hid (∀ X, Below W13.heap.size W13 X → Calls Try.prog 23 #[.agg (sc s (some ⟨ga, oa, none⟩) p), .int .i64 (j : Int), .int .i64 mm] X (OutP X (some r))) := Lib.hid (fun X hX => by
                  have h := ptake_any s (some ⟨ga, oa, none⟩) p (j : Int) mm X HP.out.r (E13.out.va.later hX)
                  rw [hs] at h
                  exact h)
                clear hr hs hlf HMM HK HXM
                have HBB := Lib.hid (Below.refl W13.heap.size W13)
                go_upto_region 36 with (first
                  | (go_at_call 23; refine (CS.out _ (Below.refl _ _)).mono ?_; rintro e13 w13 ⟨A9, p9, rfl, hs⟩; have Q13 := Lib.hid hs; have x17 := K17.out.later hs.below; clear hs)
                  | (with_reducible refine store_p rfl (.tmp 17) (.tmp 134) rfl n17 rfl rfl x17 ?_))
                have hb13 := Q13.out.below
                have v9 : VR w13 A9 r.t.length (iv r.t) := VR.of_row Q13.out (k := 0) rfl (iv_len _).symm
                have N9 : Hid ((Od.Nb A9 r.t.length n12 ∧ Od.Nb A9 r.t.length nw) ∧ Od.Nb A9 r.t.length n17) := Lib.hid (by
                  have hs := HBB.out.size
                  have l1 := K17.out.lt
                  have l2 := E13.out.k.lt
                  obtain ⟨β, e1, _⟩ := E13.out.wc 0 (by omega)
                  have l3 := World.block_lt_of_cell? _ _ e1
                  simp only at l3
                  refine ⟨⟨fun _ a ha => ?_, fun _ a ha => ?_⟩, fun _ a ha => ?_⟩ <;> (have h1 := row_fresh Q13.out (k := 0) rfl a ha; omega))
                have E14 : Hid (EB w n12 nw s (some ⟨ga, oa, none⟩) p r.t (w13.setRow n17 (sc r A9 p9))) := Lib.hid ((E13r.out.later hb13).row N17.out.1 N17.out.2.1 N17.out.2.2 NA17.out _)
                have K14 : Hid (Sp.Blk (w13.setRow n17 (sc r A9 p9)) n17 25 (sc r A9 p9)) := Lib.hid (x17.row _)
                have V14 := Lib.hid (Od.Nb.row v9 N9.out.2 (sc r A9 p9))
                change Code.wp _ _ _ _ (w13.setRow n17 (sc r A9 p9))
                clear v9 hb13 Q13 x17 k0 k1 k2 k3
                generalize w13.setRow n17 (sc r A9 p9) = W14 at *
                clear w13
                have z1 : (er (some r) != 0) = false := rfl
                obtain ⟨L2, hL2⟩ : ∃ L2, left r q = L2 := ⟨_, rfl⟩
                have HL2 := Lib.hid hL2
                have CL := Lib.hid (fun X => pleft_any r A9 p9 q X HRr.out HQ.out)
                rw [hL2] at CL
                have CR : Hid (∀ X, Below W14.heap.size W14 X → Calls Try.prog 11 #[.agg (sc r A9 p9)] X fun e w' => e = .returned (.bool true) ∧ Below X.heap.size X w') := Lib.hid (fun X hX => by
                  have h := pright_any r A9 p9 X (V14.out.later hX) (by have := right_len HRr.out; omega)
                  rw [decide_eq_true HRr.out] at h
                  exact h)
                have hlt2 := HLT.out
                rw [HL1.out, hL2] at hlt2
                have hge2 := left_ge HRr.out HQ.out.1
                rw [hL2] at hge2
                have l1 : ¬ (L1 ≤ L2) := by omega
                have l1' : decide (L1 ≤ L2) = false := decide_eq_false l1
                have l2 : ¬ (L2 < 0) := by omega
                have l2' : decide (L2 < 0) = false := decide_eq_false l2
                have HLE2 := Lib.hid hlt2
                clear hL2 hlt2
                have u0 : W14.cell? ⟨n17, 0, none⟩ = some (.slice A9 r.t.length p9) := (K14.out).cell 0; have u1 : W14.cell? ⟨n17, 1, none⟩ = some (.int .i64 r.v) := (K14.out).cell 1; have u2 : W14.cell? ⟨n17, 2, none⟩ = some (.int .i64 r.c) := (K14.out).cell 2; have u3 : W14.cell? ⟨n17, 3, none⟩ = some (.int .i64 r.n) := (K14.out).cell 3
                go_upto_region 39 with (first
                  | (go_at_call 11; refine (CR.out _ Q15.out).mono ?_; rintro e16 w16 ⟨rfl, hb16⟩; have Q16 := Lib.hid (Q15.out.trans (hb16.mono Q15.out.size)); clear hb16 u0 u1 u2 u3)
                  | (go_at_call 14; refine (CL.out _).mono ?_; rintro e15 w15 ⟨rfl, hb15⟩; have Q15 := Lib.hid hb15; clear hb15 u0 u1 u2 u3; have u0 : w15.cell? ⟨n17, 0, none⟩ = some (.slice A9 r.t.length p9) := (K14.out.later Q15.out).cell 0; have u1 : w15.cell? ⟨n17, 1, none⟩ = some (.int .i64 r.v) := (K14.out.later Q15.out).cell 1; have u2 : w15.cell? ⟨n17, 2, none⟩ = some (.int .i64 r.c) := (K14.out.later Q15.out).cell 2; have u3 : w15.cell? ⟨n17, 3, none⟩ = some (.int .i64 r.n) := (K14.out.later Q15.out).cell 3))
                have x16 := K14.out.later Q16.out
                have E16 := E14.out.later Q16.out
                have k16 := E16.k
                go_wp2_with (first
                  | (with_reducible refine load_p rfl (.tmp 17) rfl n17 rfl x16 ?_)
                  | (with_reducible refine store_p rfl (.tmp 12) (.tmp 163) rfl n12 rfl rfl k16 ?_))
                go_roundg (600 - (t + 1))
                case measure => have := HG2.out; have := HT.out; omega
                case rel =>
                  refine ⟨t + 1, (tk + 1), r, A9, p9, by have := HG2.out; omega, by rw [HL2.out], by go_num, by go_num, Lib.hid (E16.fin (V14.out.later Q16.out) HN12.out.2 HN12.out.1 N9.out.1), Lib.hid ⟨HRr.out, HNN.out, HCNT.out, by have h1 := HP.out.le; have h2 := HLE2.out; rw [HL1.out] at h1; rw [HL2.out]; omega⟩⟩
              · have hl1 : ¬ ((tk : Int) < n1) := by omega
                have hl2 : decide ((tk : Int) < n1) = false := decide_eq_false hl1
                have HMM : Hid ((0 : Int) ≤ 0 ∧ 0 ≤ q) := Lib.hid (by have := HQ.out; omega)
                go_upto_region 28 with fail
                clear hl hl1 hl2
                obtain ⟨ga, oa, hA', hc⟩ := E12.out.va.c LN.out
                subst hA'
                obtain ⟨x, hx⟩ : ∃ x, s.t[0]? = some x := ⟨_, List.getElem?_eq_getElem HK.out⟩
                have hxm : x ∈ s.t := List.mem_of_getElem? hx
                have hxb := HP.out.r.t.1 x hxm
                obtain ⟨j, rfl⟩ : ∃ j : Nat, x = (j : Int) := ⟨x.toNat, by omega⟩
                have hj : j < 16 := by omega
                have hcx : W12.cell? ⟨ga, oa, none⟩ = some (.int .i64 (j : Int)) := hc 0 _ (by unfold iv; rw [List.getElem?_map, hx]; rfl)
                obtain ⟨β, hw1, hw2, hw3⟩ := E12.out.wc j hj
                have hb0 := hw3 hxm
                subst hb0
                have HXM := Lib.hid hxm
                have HJ := Lib.hid hj
                have t1 : ¬ ((j : Int) < 0) := by omega
                have t1' : decide ((j : Int) < 0) = false := decide_eq_false t1
                have t2 : ¬ ((15 : Int) < (j : Int)) := by omega
                have t2' : decide ((15 : Int) < (j : Int)) = false := decide_eq_false t2
                have t3 : (j : Int) < 16 := by omega
                have wk : IntKind.i64.wrap ((tk : Int) + 1) = (tk : Int) + 1 := IntWalk.i64_in _ (by have h1 := HP.out.cnt; have h2 := HM.out; omega)
                have k0 : W12.cell? ⟨n12, 0, none⟩ = some (.slice (some ⟨ga, oa, none⟩) s.t.length p) := (E12.out.k).cell 0; have k1 : W12.cell? ⟨n12, 1, none⟩ = some (.int .i64 s.v) := (E12.out.k).cell 1; have k2 : W12.cell? ⟨n12, 2, none⟩ = some (.int .i64 s.c) := (E12.out.k).cell 2; have k3 : W12.cell? ⟨n12, 3, none⟩ = some (.int .i64 s.n) := (E12.out.k).cell 3
                clear hc hx hxb hw3 hxm
                go_upto_region 33 with fail
                have E13 : Hid (EB w n12 nw s (some ⟨ga, oa, none⟩) p (less s.t (j : Int)) (W12.setCell ⟨nw, j, none⟩ (.bool true))) := Lib.hid (E12.out.set HN12.out.2 HNW.out HJ.out)
                have K13 : Hid (Sp.Blk (W12.setCell ⟨nw, j, none⟩ (.bool true)) n17 25 (sc s (some ⟨ga, oa, none⟩) p)) := Lib.hid (blk_set K12.out (fun h => N17.out.2.1 h.symm) _)
                have Q13 := Lib.hid (Below.refl (W12.setCell ⟨nw, j, none⟩ (.bool true)).heap.size (W12.setCell ⟨nw, j, none⟩ (.bool true)))
                clear k0 k1 k2 k3 hcx hw1 hw2 t1 t1' t2 t2' t3 wk
                clear E11 K17 E12 K12
                generalize W12.setCell ⟨nw, j, none⟩ (.bool true) = W13 at *
                have E11 := E13
                have K17 := K13
                have k0 : W13.cell? ⟨n12, 0, none⟩ = some (.slice (some ⟨ga, oa, none⟩) s.t.length p) := (E13.out.k).cell 0; have k1 : W13.cell? ⟨n12, 1, none⟩ = some (.int .i64 s.v) := (E13.out.k).cell 1; have k2 : W13.cell? ⟨n12, 2, none⟩ = some (.int .i64 s.c) := (E13.out.k).cell 2; have k3 : W13.cell? ⟨n12, 3, none⟩ = some (.int .i64 s.n) := (E13.out.k).cell 3
                obtain ⟨r, hr⟩ : ∃ r : St, r = ⟨less s.t (j : Int), (j : Int), 0, 0⟩ := ⟨_, rfl⟩
                have hs : takes s (j : Int) 0 = some r := by
                  rw [hr]
                  unfold takes
                  rw [if_neg]
                  rintro (h | h | h | h)
                  · have := HV.out; omega
                  · exact h HXM.out
                  · have := HMM.out; omega
                  · have h1 := HMM.out; have h2 := HQ.out; omega
                have hlf := take_left (m := 0) (q := q) HP.out.r HV.out HXM.out HMM.out.1 HMM.out.2 (by omega)
                have HRr := Lib.hid (takes_right HP.out.r hs)
                have HLT : Hid (left r q < left s q) := Lib.hid (by rw [hr]; exact hlf.1)
                have HNN : Hid (r.n ≤ q) := Lib.hid (by rw [hr]; exact HMM.out.2)
                have HCNT : Hid ((tk + 1) + r.t.length = i) := Lib.hid (by rw [hr]; have h1 := hlf.2; have h2 := HP.out.cnt; simp only; omega)
                have E13r : Hid (EB w n12 nw s (some ⟨ga, oa, none⟩) p r.t W13) := Lib.hid (by rw [hr]; exact E13.out)
                have CS : Hid (∀ X, Below W13.heap.size W13 X → Calls Try.prog 23 #[.agg (sc s (some ⟨ga, oa, none⟩) p), .int .i64 (j : Int), .int .i64 0] X (OutP X (some r))) := Lib.hid (fun X hX => by
                  have h := ptake_any s (some ⟨ga, oa, none⟩) p (j : Int) 0 X HP.out.r (E13.out.va.later hX)
                  rw [hs] at h
                  exact h)
                clear hr hs hlf HMM HK HXM
                have HBB := Lib.hid (Below.refl W13.heap.size W13)
                go_upto_region 36 with (first
                  | (go_at_call 23; refine (CS.out _ (Below.refl _ _)).mono ?_; rintro e13 w13 ⟨A9, p9, rfl, hs⟩; have Q13 := Lib.hid hs; have x17 := K17.out.later hs.below; clear hs)
                  | (with_reducible refine store_p rfl (.tmp 17) (.tmp 134) rfl n17 rfl rfl x17 ?_))
                have hb13 := Q13.out.below
                have v9 : VR w13 A9 r.t.length (iv r.t) := VR.of_row Q13.out (k := 0) rfl (iv_len _).symm
                have N9 : Hid ((Od.Nb A9 r.t.length n12 ∧ Od.Nb A9 r.t.length nw) ∧ Od.Nb A9 r.t.length n17) := Lib.hid (by
                  have hs := HBB.out.size
                  have l1 := K17.out.lt
                  have l2 := E13.out.k.lt
                  obtain ⟨β, e1, _⟩ := E13.out.wc 0 (by omega)
                  have l3 := World.block_lt_of_cell? _ _ e1
                  simp only at l3
                  refine ⟨⟨fun _ a ha => ?_, fun _ a ha => ?_⟩, fun _ a ha => ?_⟩ <;> (have h1 := row_fresh Q13.out (k := 0) rfl a ha; omega))
                have E14 : Hid (EB w n12 nw s (some ⟨ga, oa, none⟩) p r.t (w13.setRow n17 (sc r A9 p9))) := Lib.hid ((E13r.out.later hb13).row N17.out.1 N17.out.2.1 N17.out.2.2 NA17.out _)
                have K14 : Hid (Sp.Blk (w13.setRow n17 (sc r A9 p9)) n17 25 (sc r A9 p9)) := Lib.hid (x17.row _)
                have V14 := Lib.hid (Od.Nb.row v9 N9.out.2 (sc r A9 p9))
                change Code.wp _ _ _ _ (w13.setRow n17 (sc r A9 p9))
                clear v9 hb13 Q13 x17 k0 k1 k2 k3
                generalize w13.setRow n17 (sc r A9 p9) = W14 at *
                clear w13
                have z1 : (er (some r) != 0) = false := rfl
                obtain ⟨L2, hL2⟩ : ∃ L2, left r q = L2 := ⟨_, rfl⟩
                have HL2 := Lib.hid hL2
                have CL := Lib.hid (fun X => pleft_any r A9 p9 q X HRr.out HQ.out)
                rw [hL2] at CL
                have CR : Hid (∀ X, Below W14.heap.size W14 X → Calls Try.prog 11 #[.agg (sc r A9 p9)] X fun e w' => e = .returned (.bool true) ∧ Below X.heap.size X w') := Lib.hid (fun X hX => by
                  have h := pright_any r A9 p9 X (V14.out.later hX) (by have := right_len HRr.out; omega)
                  rw [decide_eq_true HRr.out] at h
                  exact h)
                have hlt2 := HLT.out
                rw [HL1.out, hL2] at hlt2
                have hge2 := left_ge HRr.out HQ.out.1
                rw [hL2] at hge2
                have l1 : ¬ (L1 ≤ L2) := by omega
                have l1' : decide (L1 ≤ L2) = false := decide_eq_false l1
                have l2 : ¬ (L2 < 0) := by omega
                have l2' : decide (L2 < 0) = false := decide_eq_false l2
                have HLE2 := Lib.hid hlt2
                clear hL2 hlt2
                have u0 : W14.cell? ⟨n17, 0, none⟩ = some (.slice A9 r.t.length p9) := (K14.out).cell 0; have u1 : W14.cell? ⟨n17, 1, none⟩ = some (.int .i64 r.v) := (K14.out).cell 1; have u2 : W14.cell? ⟨n17, 2, none⟩ = some (.int .i64 r.c) := (K14.out).cell 2; have u3 : W14.cell? ⟨n17, 3, none⟩ = some (.int .i64 r.n) := (K14.out).cell 3
                go_upto_region 39 with (first
                  | (go_at_call 11; refine (CR.out _ Q15.out).mono ?_; rintro e16 w16 ⟨rfl, hb16⟩; have Q16 := Lib.hid (Q15.out.trans (hb16.mono Q15.out.size)); clear hb16 u0 u1 u2 u3)
                  | (go_at_call 14; refine (CL.out _).mono ?_; rintro e15 w15 ⟨rfl, hb15⟩; have Q15 := Lib.hid hb15; clear hb15 u0 u1 u2 u3; have u0 : w15.cell? ⟨n17, 0, none⟩ = some (.slice A9 r.t.length p9) := (K14.out.later Q15.out).cell 0; have u1 : w15.cell? ⟨n17, 1, none⟩ = some (.int .i64 r.v) := (K14.out.later Q15.out).cell 1; have u2 : w15.cell? ⟨n17, 2, none⟩ = some (.int .i64 r.c) := (K14.out.later Q15.out).cell 2; have u3 : w15.cell? ⟨n17, 3, none⟩ = some (.int .i64 r.n) := (K14.out.later Q15.out).cell 3))
                have x16 := K14.out.later Q16.out
                have E16 := E14.out.later Q16.out
                have k16 := E16.k
                go_wp2_with (first
                  | (with_reducible refine load_p rfl (.tmp 17) rfl n17 rfl x16 ?_)
                  | (with_reducible refine store_p rfl (.tmp 12) (.tmp 163) rfl n12 rfl rfl k16 ?_))
                go_roundg (600 - (t + 1))
                case measure => have := HG2.out; have := HT.out; omega
                case rel =>
                  refine ⟨t + 1, (tk + 1), r, A9, p9, by have := HG2.out; omega, by rw [HL2.out], by go_num, by go_num, Lib.hid (E16.fin (V14.out.later Q16.out) HN12.out.2 HN12.out.1 N9.out.1), Lib.hid ⟨HRr.out, HNN.out, HCNT.out, by have h1 := HP.out.le; have h2 := HLE2.out; rw [HL1.out] at h1; rw [HL2.out]; omega⟩⟩
          · obtain ⟨r, hr⟩ : ∃ r : St, r = ⟨s.t, s.v, s.c + 1, s.n⟩ := ⟨_, rfl⟩
            have hs : sees s = some r := by rw [hr]; unfold sees; rw [if_pos HNX.out]
            have hlf := see_left (q := q) hs
            have HLT : Hid (left r q < left s q) := Lib.hid (by omega)
            have HRr := Lib.hid (sees_right HP.out.r hs)
            have HTT : Hid (r.t = s.t) := Lib.hid hlf.2.1
            have HNN : Hid (r.n ≤ q) := Lib.hid (by have h1 := hlf.2.2; have h2 := HP.out.nn; have h3 := HQ.out; omega)
            have HCNT : Hid (tk + r.t.length = i) := Lib.hid (by rw [HTT.out]; exact HP.out.cnt)
            have CS : Hid (∀ X, Below W11.heap.size W11 X → Calls Try.prog 24 #[.agg (sc s A p)] X (OutP X (some r))) := Lib.hid (fun X hX => by
              have h := psees_any s A p X HP.out.r (E11.out.va.later hX)
              rw [hs] at h
              exact h)
            have E11r : Hid (EB w n12 nw s A p r.t W11) := Lib.hid (by rw [HTT.out]; exact E11.out)
            clear hr hs hlf g1
            go_upto_region 36 with (first
              | (go_at_call 16; refine (CN.out _).mono ?_; rintro e12 w12 ⟨rfl, hb12⟩; have Q12 := Lib.hid hb12; clear hb12 k0 k1 k2 k3; have k0 : w12.cell? ⟨n12, 0, none⟩ = some (.slice A s.t.length p) := (E11.out.k.later Q12.out).cell 0; have k1 : w12.cell? ⟨n12, 1, none⟩ = some (.int .i64 s.v) := (E11.out.k.later Q12.out).cell 1; have k2 : w12.cell? ⟨n12, 2, none⟩ = some (.int .i64 s.c) := (E11.out.k.later Q12.out).cell 2; have k3 : w12.cell? ⟨n12, 3, none⟩ = some (.int .i64 s.n) := (E11.out.k.later Q12.out).cell 3)
              | (go_at_call 24; refine (CS.out _ Q12.out).mono ?_; rintro e13 w13 ⟨A9, p9, rfl, hs⟩; have Q13 := Lib.hid hs; have x17 := K17.out.later (Q12.out.trans (hs.below.mono Q12.out.size)); clear hs)
              | (with_reducible refine store_p rfl (.tmp 17) (.tmp 141) rfl n17 rfl rfl x17 ?_))
            have E12 := Lib.hid (E11r.out.later Q12.out)
            have hb13 := Q13.out.below
            have v9 : VR w13 A9 r.t.length (iv r.t) := VR.of_row Q13.out (k := 0) rfl (iv_len _).symm
            have N9 : Hid ((Od.Nb A9 r.t.length n12 ∧ Od.Nb A9 r.t.length nw) ∧ Od.Nb A9 r.t.length n17) := Lib.hid (by
              have hs := Q12.out.size
              have l1 := K17.out.lt
              have l2 := E11.out.k.lt
              obtain ⟨β, e1, _⟩ := E11.out.wc 0 (by omega)
              have l3 := World.block_lt_of_cell? _ _ e1
              simp only at l3
              refine ⟨⟨fun _ a ha => ?_, fun _ a ha => ?_⟩, fun _ a ha => ?_⟩ <;> (have h1 := row_fresh Q13.out (k := 0) rfl a ha; omega))
            have E14 : Hid (EB w n12 nw s A p r.t (w13.setRow n17 (sc r A9 p9))) := Lib.hid ((E12.out.later hb13).row N17.out.1 N17.out.2.1 N17.out.2.2 NA17.out _)
            have K14 : Hid (Sp.Blk (w13.setRow n17 (sc r A9 p9)) n17 25 (sc r A9 p9)) := Lib.hid (x17.row _)
            have V14 := Lib.hid (Od.Nb.row v9 N9.out.2 (sc r A9 p9))
            change Code.wp _ _ _ _ (w13.setRow n17 (sc r A9 p9))
            clear v9 hb13 Q13 x17 k0 k1 k2 k3
            generalize w13.setRow n17 (sc r A9 p9) = W14 at *
            clear w13
            have z1 : (er (some r) != 0) = false := rfl
            obtain ⟨L2, hL2⟩ : ∃ L2, left r q = L2 := ⟨_, rfl⟩
            have HL2 := Lib.hid hL2
            have CL := Lib.hid (fun X => pleft_any r A9 p9 q X HRr.out HQ.out)
            rw [hL2] at CL
            have CR : Hid (∀ X, Below W14.heap.size W14 X → Calls Try.prog 11 #[.agg (sc r A9 p9)] X fun e w' => e = .returned (.bool true) ∧ Below X.heap.size X w') := Lib.hid (fun X hX => by
              have h := pright_any r A9 p9 X (V14.out.later hX) (by have := right_len HRr.out; omega)
              rw [decide_eq_true HRr.out] at h
              exact h)
            have hlt2 := HLT.out
            rw [HL1.out, hL2] at hlt2
            have hge2 := left_ge HRr.out HQ.out.1
            rw [hL2] at hge2
            have l1 : ¬ (L1 ≤ L2) := by omega
            have l1' : decide (L1 ≤ L2) = false := decide_eq_false l1
            have l2 : ¬ (L2 < 0) := by omega
            have l2' : decide (L2 < 0) = false := decide_eq_false l2
            have HLE2 := Lib.hid hlt2
            clear hL2 hlt2
            have u0 : W14.cell? ⟨n17, 0, none⟩ = some (.slice A9 r.t.length p9) := (K14.out).cell 0; have u1 : W14.cell? ⟨n17, 1, none⟩ = some (.int .i64 r.v) := (K14.out).cell 1; have u2 : W14.cell? ⟨n17, 2, none⟩ = some (.int .i64 r.c) := (K14.out).cell 2; have u3 : W14.cell? ⟨n17, 3, none⟩ = some (.int .i64 r.n) := (K14.out).cell 3
            go_upto_region 39 with (first
              | (go_at_call 11; refine (CR.out _ Q15.out).mono ?_; rintro e16 w16 ⟨rfl, hb16⟩; have Q16 := Lib.hid (Q15.out.trans (hb16.mono Q15.out.size)); clear hb16 u0 u1 u2 u3)
              | (go_at_call 14; refine (CL.out _).mono ?_; rintro e15 w15 ⟨rfl, hb15⟩; have Q15 := Lib.hid hb15; clear hb15 u0 u1 u2 u3; have u0 : w15.cell? ⟨n17, 0, none⟩ = some (.slice A9 r.t.length p9) := (K14.out.later Q15.out).cell 0; have u1 : w15.cell? ⟨n17, 1, none⟩ = some (.int .i64 r.v) := (K14.out.later Q15.out).cell 1; have u2 : w15.cell? ⟨n17, 2, none⟩ = some (.int .i64 r.c) := (K14.out.later Q15.out).cell 2; have u3 : w15.cell? ⟨n17, 3, none⟩ = some (.int .i64 r.n) := (K14.out.later Q15.out).cell 3))
            have x16 := K14.out.later Q16.out
            have E16 := E14.out.later Q16.out
            have k16 := E16.k
            go_wp2_with (first
              | (with_reducible refine load_p rfl (.tmp 17) rfl n17 rfl x16 ?_)
              | (with_reducible refine store_p rfl (.tmp 12) (.tmp 163) rfl n12 rfl rfl k16 ?_))
            go_roundg (600 - (t + 1))
            case measure => have := HG2.out; have := HT.out; omega
            case rel =>
              refine ⟨t + 1, tk, r, A9, p9, by have := HG2.out; omega, by rw [HL2.out], by go_num, by go_num, Lib.hid (E16.fin (V14.out.later Q16.out) HN12.out.2 HN12.out.1 N9.out.1), Lib.hid ⟨HRr.out, HNN.out, HCNT.out, by have h1 := HP.out.le; have h2 := HLE2.out; rw [HL1.out] at h1; rw [HL2.out]; omega⟩⟩
          · obtain ⟨r, hr⟩ : ∃ r : St, r = ⟨s.t, -1, 0, 0⟩ := ⟨_, rfl⟩
            have hs : gives s = some r := by rw [hr]; unfold gives; rw [if_pos HNX.out]
            have hlf := give_left HP.out.r (q := q) hs
            have HLT : Hid (left r q < left s q) := Lib.hid (by omega)
            have HRr := Lib.hid (gives_right HP.out.r hs)
            have HTT : Hid (r.t = s.t) := Lib.hid hlf.2.1
            have HNN : Hid (r.n ≤ q) := Lib.hid (by have h1 := hlf.2.2; have h2 := HP.out.nn; have h3 := HQ.out; omega)
            have HCNT : Hid (tk + r.t.length = i) := Lib.hid (by rw [HTT.out]; exact HP.out.cnt)
            have CS : Hid (∀ X, Below W11.heap.size W11 X → Calls Try.prog 25 #[.agg (sc s A p)] X (OutP X (some r))) := Lib.hid (fun X hX => by
              have h := pgiven_any s A p X HP.out.r (E11.out.va.later hX)
              rw [hs] at h
              exact h)
            have E11r : Hid (EB w n12 nw s A p r.t W11) := Lib.hid (by rw [HTT.out]; exact E11.out)
            clear hr hs hlf g1
            go_upto_region 36 with (first
              | (go_at_call 16; refine (CN.out _).mono ?_; rintro e12 w12 ⟨rfl, hb12⟩; have Q12 := Lib.hid hb12; clear hb12 k0 k1 k2 k3; have k0 : w12.cell? ⟨n12, 0, none⟩ = some (.slice A s.t.length p) := (E11.out.k.later Q12.out).cell 0; have k1 : w12.cell? ⟨n12, 1, none⟩ = some (.int .i64 s.v) := (E11.out.k.later Q12.out).cell 1; have k2 : w12.cell? ⟨n12, 2, none⟩ = some (.int .i64 s.c) := (E11.out.k.later Q12.out).cell 2; have k3 : w12.cell? ⟨n12, 3, none⟩ = some (.int .i64 s.n) := (E11.out.k.later Q12.out).cell 3)
              | (go_at_call 25; refine (CS.out _ Q12.out).mono ?_; rintro e13 w13 ⟨A9, p9, rfl, hs⟩; have Q13 := Lib.hid hs; have x17 := K17.out.later (Q12.out.trans (hs.below.mono Q12.out.size)); clear hs)
              | (with_reducible refine store_p rfl (.tmp 17) (.tmp 75) rfl n17 rfl rfl x17 ?_))
            have E12 := Lib.hid (E11r.out.later Q12.out)
            have hb13 := Q13.out.below
            have v9 : VR w13 A9 r.t.length (iv r.t) := VR.of_row Q13.out (k := 0) rfl (iv_len _).symm
            have N9 : Hid ((Od.Nb A9 r.t.length n12 ∧ Od.Nb A9 r.t.length nw) ∧ Od.Nb A9 r.t.length n17) := Lib.hid (by
              have hs := Q12.out.size
              have l1 := K17.out.lt
              have l2 := E11.out.k.lt
              obtain ⟨β, e1, _⟩ := E11.out.wc 0 (by omega)
              have l3 := World.block_lt_of_cell? _ _ e1
              simp only at l3
              refine ⟨⟨fun _ a ha => ?_, fun _ a ha => ?_⟩, fun _ a ha => ?_⟩ <;> (have h1 := row_fresh Q13.out (k := 0) rfl a ha; omega))
            have E14 : Hid (EB w n12 nw s A p r.t (w13.setRow n17 (sc r A9 p9))) := Lib.hid ((E12.out.later hb13).row N17.out.1 N17.out.2.1 N17.out.2.2 NA17.out _)
            have K14 : Hid (Sp.Blk (w13.setRow n17 (sc r A9 p9)) n17 25 (sc r A9 p9)) := Lib.hid (x17.row _)
            have V14 := Lib.hid (Od.Nb.row v9 N9.out.2 (sc r A9 p9))
            change Code.wp _ _ _ _ (w13.setRow n17 (sc r A9 p9))
            clear v9 hb13 Q13 x17 k0 k1 k2 k3
            generalize w13.setRow n17 (sc r A9 p9) = W14 at *
            clear w13
            have z1 : (er (some r) != 0) = false := rfl
            obtain ⟨L2, hL2⟩ : ∃ L2, left r q = L2 := ⟨_, rfl⟩
            have HL2 := Lib.hid hL2
            have CL := Lib.hid (fun X => pleft_any r A9 p9 q X HRr.out HQ.out)
            rw [hL2] at CL
            have CR : Hid (∀ X, Below W14.heap.size W14 X → Calls Try.prog 11 #[.agg (sc r A9 p9)] X fun e w' => e = .returned (.bool true) ∧ Below X.heap.size X w') := Lib.hid (fun X hX => by
              have h := pright_any r A9 p9 X (V14.out.later hX) (by have := right_len HRr.out; omega)
              rw [decide_eq_true HRr.out] at h
              exact h)
            have hlt2 := HLT.out
            rw [HL1.out, hL2] at hlt2
            have hge2 := left_ge HRr.out HQ.out.1
            rw [hL2] at hge2
            have l1 : ¬ (L1 ≤ L2) := by omega
            have l1' : decide (L1 ≤ L2) = false := decide_eq_false l1
            have l2 : ¬ (L2 < 0) := by omega
            have l2' : decide (L2 < 0) = false := decide_eq_false l2
            have HLE2 := Lib.hid hlt2
            clear hL2 hlt2
            have u0 : W14.cell? ⟨n17, 0, none⟩ = some (.slice A9 r.t.length p9) := (K14.out).cell 0; have u1 : W14.cell? ⟨n17, 1, none⟩ = some (.int .i64 r.v) := (K14.out).cell 1; have u2 : W14.cell? ⟨n17, 2, none⟩ = some (.int .i64 r.c) := (K14.out).cell 2; have u3 : W14.cell? ⟨n17, 3, none⟩ = some (.int .i64 r.n) := (K14.out).cell 3
            go_upto_region 39 with (first
              | (go_at_call 11; refine (CR.out _ Q15.out).mono ?_; rintro e16 w16 ⟨rfl, hb16⟩; have Q16 := Lib.hid (Q15.out.trans (hb16.mono Q15.out.size)); clear hb16 u0 u1 u2 u3)
              | (go_at_call 14; refine (CL.out _).mono ?_; rintro e15 w15 ⟨rfl, hb15⟩; have Q15 := Lib.hid hb15; clear hb15 u0 u1 u2 u3; have u0 : w15.cell? ⟨n17, 0, none⟩ = some (.slice A9 r.t.length p9) := (K14.out.later Q15.out).cell 0; have u1 : w15.cell? ⟨n17, 1, none⟩ = some (.int .i64 r.v) := (K14.out.later Q15.out).cell 1; have u2 : w15.cell? ⟨n17, 2, none⟩ = some (.int .i64 r.c) := (K14.out.later Q15.out).cell 2; have u3 : w15.cell? ⟨n17, 3, none⟩ = some (.int .i64 r.n) := (K14.out.later Q15.out).cell 3))
            have x16 := K14.out.later Q16.out
            have E16 := E14.out.later Q16.out
            have k16 := E16.k
            go_wp2_with (first
              | (with_reducible refine load_p rfl (.tmp 17) rfl n17 rfl x16 ?_)
              | (with_reducible refine store_p rfl (.tmp 12) (.tmp 163) rfl n12 rfl rfl k16 ?_))
            go_roundg (600 - (t + 1))
            case measure => have := HG2.out; have := HT.out; omega
            case rel =>
              refine ⟨t + 1, tk, r, A9, p9, by have := HG2.out; omega, by rw [HL2.out], by go_num, by go_num, Lib.hid (E16.fin (V14.out.later Q16.out) HN12.out.2 HN12.out.1 N9.out.1), Lib.hid ⟨HRr.out, HNN.out, HCNT.out, by have h1 := HP.out.le; have h2 := HLE2.out; rw [HL1.out] at h1; rw [HL2.out]; omega⟩⟩

set_option maxRecDepth 100000 in
theorem lifted (os : Os) (started : os.Started) (H : Type) (enc : TypeId × Value → H) :
    ReturnsInHanded {} Try.checked os 5 .any (Rows.sweepEndsSpec.pre6 enc Try.prog Try.f5 Rows.sweepEndsRow.domain false) (Rows.sweepEndsSpec.post enc Try.prog Try.f5 false true false false) := by
  refine returnsInHanded_of_change (C := Try.checked) own started (by kernel_rfl) Try.func5
    (ChangeSpec.witness6 (enc := enc) (C := Try.checked) false ⟨#[], #[.agg #[.int .u8 0, .int .u8 0], .slice none 0 0, .slice none 0 0], []⟩ 8 (by kernel_rfl) (by kernel_rfl) (by kernel_rfl) (by kernel_rfl)) ?_
  intro W base args ds gs before hval0 hW hcnd _
  have hval : ∀ (j : Nat) t v, Try.f5.params[j]? = some t → args[j]? = some v → Value.okWide Try.prog W .any base t v := hval0
  have hW' := hW
  obtain ⟨p, q, hA0, hV, rfl, hfz, hnd⟩ := hW
  have hA : DataW.TrodAll enc Try.prog W 0 (fun _ => true) true Try.f5.params.toList args.toList ds p := hA0
  rw [Try.params5] at hA hval
  obtain ⟨v0, vs0, d0, ds0, p0, q0, hargs, rfl, rfl, h0, r0⟩ := trodAll_cons hA
  obtain ⟨v1, vs1, d1, ds1, p1, q1, rfl, rfl, rfl, h1, r1⟩ := trodAll_cons r0
  obtain ⟨v2, vs2, d2, ds2, p2, q2, rfl, rfl, rfl, h2, r2⟩ := trodAll_cons r1
  obtain ⟨rfl, rfl, rfl⟩ := trodAll_nil r2
  obtain rfl : args = #[v0, v1, v2] := by cases args; simp_all
  obtain ⟨rfl, rfl⟩ := trodVars_none hV
  obtain ⟨a0, b0, rfl, w0, u0⟩ := open_two8 (hval 0 44 v0 rfl rfl) h0
  obtain ⟨A1, n1, c1, f1, rfl, hn1, hc1, hw1⟩ := open_nums Try.underlying45 Try.underlying5 (by kernel_rfl) (hval 1 45 v1 rfl rfl) h1
  obtain ⟨A2, n2, c2, f2, rfl, hn2, hc2, hw2⟩ := open_nums Try.underlying45 Try.underlying5 (by kernel_rfl) (hval 2 45 v2 rfl rfl) h2
  clear hA0 hval0
  try simp only [List.append_nil] at hW'
  try simp only [List.nil_append] at hW'
  have hlt := fun x hx => hW'.lt x hx
  refine (walk a0 b0 A1 n1 c1 f1 A2 n2 c2 f2 W w0 u0 hn1 hc1 hw1 hn2 hc2 hw2).mono fun e W' ⟨he, hg⟩ => ?_
  subst he
  refine ⟨_, rfl, post_mem hW' (fun _ _ _ => (trodAll_cons_mk (shut_bool Try.underlying4 _) trodAll_mk0)) (fun sp hsp => ?_) (fun _ => rfl) hg (ok_one (by kernel_rfl) rfl (okWide_bool_mk Try.underlying4 _))⟩
  have hall := (trodAll_cons_mk (arg_same (sp := sp) laid (by kernel_rfl) (of_decide_eq_true (by kernel_rfl)) h0 hg (by intro x hx; simp_all) hlt hsp) (trodAll_cons_mk (arg_same (sp := sp) laid (by kernel_rfl) (of_decide_eq_true (by kernel_rfl)) h1 hg (by intro x hx; simp_all) hlt hsp) (trodAll_cons_mk (arg_same (sp := sp) laid (by kernel_rfl) (of_decide_eq_true (by kernel_rfl)) h2 hg (by intro x hx; simp_all) hlt hsp) trodAll_mk0)))
  try simp only [List.append_nil] at hall
  try simp only [List.nil_append] at hall
  exact hall

theorem over : Rows.sweepEndsRow.holds Try.pinned (OpenSpec.ofChange Rows.sweepEndsSpec) :=
  OpenClaim.holds_of_wide 5 Try.f5 rfl rfl rfl rfl rfl rfl rfl ⟨rfl, rfl, rfl, rfl, rfl⟩ rfl rfl rfl rfl rfl (by kernel_rfl) Try.func5 (by kernel_rfl)
    (of_decide_eq_true (by kernel_rfl)) (by unfold Func.isWrapper; first | (rw [if_pos (by decide +kernel)]; kernel_rfl) | (rw [if_neg (by decide +kernel)]; exact ⟨rfl, rfl⟩))
    (fun os started H enc _ => lifted os started H enc)

theorem proved : Rows.SweepEndsSaid := over
#print axioms proved
end Go.Proofs.Ytfhdckmpodmejaa.sweepEnds
