/- For every table and every first LSN the statement TableOwn about table.Roll, Count and Drop returns true, and changes nothing. Conditions: none. -/
import Derived.Test.YtpgbbbgblgkokaaTbX
import Derived.Test.YtpgbbbgblgkokaaTbP
import Derived.Test.YtpgbbbgblgkokaaTbZ
import Derived.Test.YtpgbbbgblgkokaaTbO
import Derived.Test.YtpgbbbgblgkokaaTbW
import Derived.Test.YtpgbbbgblgkokaaTbOw
import Derived.Test.YtpgbbbgblgkokaaMem
import Derived.Test.YtpgbbbgblgkokaaClass
import Derived.Deep.QuietTactic
import Derived.BigQuiet
import Derived.Deep.DeepCutAuto
import Derived.Deep.LoopGhost
import Derived.Deep.RegionWith
import Derived.StillTailTactics
import Derived.WalkSmall
import Derived.IntWalk
import Derived.ProofKit
import Derived.OpenShut
import Derived.ShutString
import Derived.SizedLaws
namespace Go.Proofs.Ytpgbbbgblgkokaa.tableOwn
open Go.ChangeShapes Go.WideShapes Go.ChangeAt Go.RowKit Go.Lib Go.MapKept
open Go.ChangeMaps (open_string shut_string)
set_option linter.unusedVariables false

theorem own : ownKnob Try.prog.godebug = none := by kernel_rfl
theorem laid : laidOutB Try.prog = true := by kernel_rfl

theorem arrF156 {cs : Array Value} (h : cs.size = 156) : ∃ y : Nat → Value, (∀ i, cs.getD i undef = y i) ∧ cs = #[y 0, y 1, y 2, y 3, y 4, y 5, y 6, y 7, y 8, y 9, y 10, y 11, y 12, y 13, y 14, y 15, y 16, y 17, y 18, y 19, y 20, y 21, y 22, y 23, y 24, y 25, y 26, y 27, y 28, y 29, y 30, y 31, y 32, y 33, y 34, y 35, y 36, y 37, y 38, y 39, y 40, y 41, y 42, y 43, y 44, y 45, y 46, y 47, y 48, y 49, y 50, y 51, y 52, y 53, y 54, y 55, y 56, y 57, y 58, y 59, y 60, y 61, y 62, y 63, y 64, y 65, y 66, y 67, y 68, y 69, y 70, y 71, y 72, y 73, y 74, y 75, y 76, y 77, y 78, y 79, y 80, y 81, y 82, y 83, y 84, y 85, y 86, y 87, y 88, y 89, y 90, y 91, y 92, y 93, y 94, y 95, y 96, y 97, y 98, y 99, y 100, y 101, y 102, y 103, y 104, y 105, y 106, y 107, y 108, y 109, y 110, y 111, y 112, y 113, y 114, y 115, y 116, y 117, y 118, y 119, y 120, y 121, y 122, y 123, y 124, y 125, y 126, y 127, y 128, y 129, y 130, y 131, y 132, y 133, y 134, y 135, y 136, y 137, y 138, y 139, y 140, y 141, y 142, y 143, y 144, y 145, y 146, y 147, y 148, y 149, y 150, y 151, y 152, y 153, y 154, y 155] := by
  refine ⟨fun i => cs.getD i undef, fun _ => rfl, ?_⟩
  have e : cs = ((List.range 156).map fun i => cs.getD i undef).toArray := by
    apply Array.ext
    · simp [h]
    · intro i h1 h2
      simp [h1]
  exact e.trans rfl
theorem kept_of {ops : Array Oper} {dsts : List Nat} {listed : Array Bool} (h : ops.all (fun o => match o.dst with | none => true | some d => dsts.contains d) = true) {d : Nat} (hd : dsts.contains d = false) : ∀ i o, ops[i]? = some o → listed.getD i false = true → o.dst ≠ some d := by
  intro i o hi _ e
  rw [Array.all_eq_true_iff_forall_mem] at h
  have := h o (Array.mem_of_getElem? hi)
  rw [e] at this
  simp only at this
  rw [hd] at this
  cases this
set_option maxRecDepth 100000 in
theorem fr4 {z0 z1 z2 z3 z4 z5 z6 z7 z8 z9 z10 z11 z12 z13 z14 z15 z16 z17 z18 z19 z20 z21 z22 z23 z24 z25 z26 z27 z28 z29 z30 z31 z32 z33 z34 z35 z36 z37 z38 z39 z40 z41 z42 z43 z44 z45 z46 z47 z48 z49 z50 z51 z52 z53 z54 z55 z56 z57 z58 z59 z60 z61 z62 z63 z64 z65 z66 z67 z68 z69 z70 z71 z72 z73 z74 z75 z76 z77 z78 z79 z80 z81 z82 z83 z84 z85 z86 z87 z88 z89 z90 z91 z92 z93 z94 z95 z96 z97 z98 z99 z100 z101 z102 z103 z104 z105 z106 z107 z108 z109 z110 z111 z112 z113 z114 z115 z116 z117 z118 z119 z120 z121 z122 z123 z124 z125 z126 z127 z128 z129 z130 z131 z132 z133 z134 z135 z136 z137 z138 z139 z140 z141 z142 z143 z144 z145 z146 z147 z148 z149 z150 z151 z152 z153 z154 z155 : Value} {ts us : Array Value} (hz : ts = #[z0, z1, z2, z3, z4, z5, z6, z7, z8, z9, z10, z11, z12, z13, z14, z15, z16, z17, z18, z19, z20, z21, z22, z23, z24, z25, z26, z27, z28, z29, z30, z31, z32, z33, z34, z35, z36, z37, z38, z39, z40, z41, z42, z43, z44, z45, z46, z47, z48, z49, z50, z51, z52, z53, z54, z55, z56, z57, z58, z59, z60, z61, z62, z63, z64, z65, z66, z67, z68, z69, z70, z71, z72, z73, z74, z75, z76, z77, z78, z79, z80, z81, z82, z83, z84, z85, z86, z87, z88, z89, z90, z91, z92, z93, z94, z95, z96, z97, z98, z99, z100, z101, z102, z103, z104, z105, z106, z107, z108, z109, z110, z111, z112, z113, z114, z115, z116, z117, z118, z119, z120, z121, z122, z123, z124, z125, z126, z127, z128, z129, z130, z131, z132, z133, z134, z135, z136, z137, z138, z139, z140, z141, z142, z143, z144, z145, z146, z147, z148, z149, z150, z151, z152, z153, z154, z155]) (hs : us.size = ts.size) (hk : ∀ d, [29, 30, 31, 32, 33, 34, 35, 36, 37, 38, 39, 40, 41, 42, 43, 44, 45, 5].contains d = false → us.getD d undef = ts.getD d undef) :
    ∃ y : Nat → Value, (∀ i, us.getD i undef = y i) ∧ us = #[z0, z1, z2, z3, z4, y 5, z6, z7, z8, z9, z10, z11, z12, z13, z14, z15, z16, z17, z18, z19, z20, z21, z22, z23, z24, z25, z26, z27, z28, y 29, y 30, y 31, y 32, y 33, y 34, y 35, y 36, y 37, y 38, y 39, y 40, y 41, y 42, y 43, y 44, y 45, z46, z47, z48, z49, z50, z51, z52, z53, z54, z55, z56, z57, z58, z59, z60, z61, z62, z63, z64, z65, z66, z67, z68, z69, z70, z71, z72, z73, z74, z75, z76, z77, z78, z79, z80, z81, z82, z83, z84, z85, z86, z87, z88, z89, z90, z91, z92, z93, z94, z95, z96, z97, z98, z99, z100, z101, z102, z103, z104, z105, z106, z107, z108, z109, z110, z111, z112, z113, z114, z115, z116, z117, z118, z119, z120, z121, z122, z123, z124, z125, z126, z127, z128, z129, z130, z131, z132, z133, z134, z135, z136, z137, z138, z139, z140, z141, z142, z143, z144, z145, z146, z147, z148, z149, z150, z151, z152, z153, z154, z155] := by
  obtain ⟨y, hy, e⟩ := arrF156 (cs := us) (by rw [hs, hz]; rfl)
  subst hz
  refine ⟨y, hy, e.trans ?_⟩
  have e0 : y 0 = z0 := (hy 0).symm.trans (hk 0 rfl)
  have e1 : y 1 = z1 := (hy 1).symm.trans (hk 1 rfl)
  have e2 : y 2 = z2 := (hy 2).symm.trans (hk 2 rfl)
  have e3 : y 3 = z3 := (hy 3).symm.trans (hk 3 rfl)
  have e4 : y 4 = z4 := (hy 4).symm.trans (hk 4 rfl)
  have e6 : y 6 = z6 := (hy 6).symm.trans (hk 6 rfl)
  have e7 : y 7 = z7 := (hy 7).symm.trans (hk 7 rfl)
  have e8 : y 8 = z8 := (hy 8).symm.trans (hk 8 rfl)
  have e9 : y 9 = z9 := (hy 9).symm.trans (hk 9 rfl)
  have e10 : y 10 = z10 := (hy 10).symm.trans (hk 10 rfl)
  have e11 : y 11 = z11 := (hy 11).symm.trans (hk 11 rfl)
  have e12 : y 12 = z12 := (hy 12).symm.trans (hk 12 rfl)
  have e13 : y 13 = z13 := (hy 13).symm.trans (hk 13 rfl)
  have e14 : y 14 = z14 := (hy 14).symm.trans (hk 14 rfl)
  have e15 : y 15 = z15 := (hy 15).symm.trans (hk 15 rfl)
  have e16 : y 16 = z16 := (hy 16).symm.trans (hk 16 rfl)
  have e17 : y 17 = z17 := (hy 17).symm.trans (hk 17 rfl)
  have e18 : y 18 = z18 := (hy 18).symm.trans (hk 18 rfl)
  have e19 : y 19 = z19 := (hy 19).symm.trans (hk 19 rfl)
  have e20 : y 20 = z20 := (hy 20).symm.trans (hk 20 rfl)
  have e21 : y 21 = z21 := (hy 21).symm.trans (hk 21 rfl)
  have e22 : y 22 = z22 := (hy 22).symm.trans (hk 22 rfl)
  have e23 : y 23 = z23 := (hy 23).symm.trans (hk 23 rfl)
  have e24 : y 24 = z24 := (hy 24).symm.trans (hk 24 rfl)
  have e25 : y 25 = z25 := (hy 25).symm.trans (hk 25 rfl)
  have e26 : y 26 = z26 := (hy 26).symm.trans (hk 26 rfl)
  have e27 : y 27 = z27 := (hy 27).symm.trans (hk 27 rfl)
  have e28 : y 28 = z28 := (hy 28).symm.trans (hk 28 rfl)
  have e46 : y 46 = z46 := (hy 46).symm.trans (hk 46 rfl)
  have e47 : y 47 = z47 := (hy 47).symm.trans (hk 47 rfl)
  have e48 : y 48 = z48 := (hy 48).symm.trans (hk 48 rfl)
  have e49 : y 49 = z49 := (hy 49).symm.trans (hk 49 rfl)
  have e50 : y 50 = z50 := (hy 50).symm.trans (hk 50 rfl)
  have e51 : y 51 = z51 := (hy 51).symm.trans (hk 51 rfl)
  have e52 : y 52 = z52 := (hy 52).symm.trans (hk 52 rfl)
  have e53 : y 53 = z53 := (hy 53).symm.trans (hk 53 rfl)
  have e54 : y 54 = z54 := (hy 54).symm.trans (hk 54 rfl)
  have e55 : y 55 = z55 := (hy 55).symm.trans (hk 55 rfl)
  have e56 : y 56 = z56 := (hy 56).symm.trans (hk 56 rfl)
  have e57 : y 57 = z57 := (hy 57).symm.trans (hk 57 rfl)
  have e58 : y 58 = z58 := (hy 58).symm.trans (hk 58 rfl)
  have e59 : y 59 = z59 := (hy 59).symm.trans (hk 59 rfl)
  have e60 : y 60 = z60 := (hy 60).symm.trans (hk 60 rfl)
  have e61 : y 61 = z61 := (hy 61).symm.trans (hk 61 rfl)
  have e62 : y 62 = z62 := (hy 62).symm.trans (hk 62 rfl)
  have e63 : y 63 = z63 := (hy 63).symm.trans (hk 63 rfl)
  have e64 : y 64 = z64 := (hy 64).symm.trans (hk 64 rfl)
  have e65 : y 65 = z65 := (hy 65).symm.trans (hk 65 rfl)
  have e66 : y 66 = z66 := (hy 66).symm.trans (hk 66 rfl)
  have e67 : y 67 = z67 := (hy 67).symm.trans (hk 67 rfl)
  have e68 : y 68 = z68 := (hy 68).symm.trans (hk 68 rfl)
  have e69 : y 69 = z69 := (hy 69).symm.trans (hk 69 rfl)
  have e70 : y 70 = z70 := (hy 70).symm.trans (hk 70 rfl)
  have e71 : y 71 = z71 := (hy 71).symm.trans (hk 71 rfl)
  have e72 : y 72 = z72 := (hy 72).symm.trans (hk 72 rfl)
  have e73 : y 73 = z73 := (hy 73).symm.trans (hk 73 rfl)
  have e74 : y 74 = z74 := (hy 74).symm.trans (hk 74 rfl)
  have e75 : y 75 = z75 := (hy 75).symm.trans (hk 75 rfl)
  have e76 : y 76 = z76 := (hy 76).symm.trans (hk 76 rfl)
  have e77 : y 77 = z77 := (hy 77).symm.trans (hk 77 rfl)
  have e78 : y 78 = z78 := (hy 78).symm.trans (hk 78 rfl)
  have e79 : y 79 = z79 := (hy 79).symm.trans (hk 79 rfl)
  have e80 : y 80 = z80 := (hy 80).symm.trans (hk 80 rfl)
  have e81 : y 81 = z81 := (hy 81).symm.trans (hk 81 rfl)
  have e82 : y 82 = z82 := (hy 82).symm.trans (hk 82 rfl)
  have e83 : y 83 = z83 := (hy 83).symm.trans (hk 83 rfl)
  have e84 : y 84 = z84 := (hy 84).symm.trans (hk 84 rfl)
  have e85 : y 85 = z85 := (hy 85).symm.trans (hk 85 rfl)
  have e86 : y 86 = z86 := (hy 86).symm.trans (hk 86 rfl)
  have e87 : y 87 = z87 := (hy 87).symm.trans (hk 87 rfl)
  have e88 : y 88 = z88 := (hy 88).symm.trans (hk 88 rfl)
  have e89 : y 89 = z89 := (hy 89).symm.trans (hk 89 rfl)
  have e90 : y 90 = z90 := (hy 90).symm.trans (hk 90 rfl)
  have e91 : y 91 = z91 := (hy 91).symm.trans (hk 91 rfl)
  have e92 : y 92 = z92 := (hy 92).symm.trans (hk 92 rfl)
  have e93 : y 93 = z93 := (hy 93).symm.trans (hk 93 rfl)
  have e94 : y 94 = z94 := (hy 94).symm.trans (hk 94 rfl)
  have e95 : y 95 = z95 := (hy 95).symm.trans (hk 95 rfl)
  have e96 : y 96 = z96 := (hy 96).symm.trans (hk 96 rfl)
  have e97 : y 97 = z97 := (hy 97).symm.trans (hk 97 rfl)
  have e98 : y 98 = z98 := (hy 98).symm.trans (hk 98 rfl)
  have e99 : y 99 = z99 := (hy 99).symm.trans (hk 99 rfl)
  have e100 : y 100 = z100 := (hy 100).symm.trans (hk 100 rfl)
  have e101 : y 101 = z101 := (hy 101).symm.trans (hk 101 rfl)
  have e102 : y 102 = z102 := (hy 102).symm.trans (hk 102 rfl)
  have e103 : y 103 = z103 := (hy 103).symm.trans (hk 103 rfl)
  have e104 : y 104 = z104 := (hy 104).symm.trans (hk 104 rfl)
  have e105 : y 105 = z105 := (hy 105).symm.trans (hk 105 rfl)
  have e106 : y 106 = z106 := (hy 106).symm.trans (hk 106 rfl)
  have e107 : y 107 = z107 := (hy 107).symm.trans (hk 107 rfl)
  have e108 : y 108 = z108 := (hy 108).symm.trans (hk 108 rfl)
  have e109 : y 109 = z109 := (hy 109).symm.trans (hk 109 rfl)
  have e110 : y 110 = z110 := (hy 110).symm.trans (hk 110 rfl)
  have e111 : y 111 = z111 := (hy 111).symm.trans (hk 111 rfl)
  have e112 : y 112 = z112 := (hy 112).symm.trans (hk 112 rfl)
  have e113 : y 113 = z113 := (hy 113).symm.trans (hk 113 rfl)
  have e114 : y 114 = z114 := (hy 114).symm.trans (hk 114 rfl)
  have e115 : y 115 = z115 := (hy 115).symm.trans (hk 115 rfl)
  have e116 : y 116 = z116 := (hy 116).symm.trans (hk 116 rfl)
  have e117 : y 117 = z117 := (hy 117).symm.trans (hk 117 rfl)
  have e118 : y 118 = z118 := (hy 118).symm.trans (hk 118 rfl)
  have e119 : y 119 = z119 := (hy 119).symm.trans (hk 119 rfl)
  have e120 : y 120 = z120 := (hy 120).symm.trans (hk 120 rfl)
  have e121 : y 121 = z121 := (hy 121).symm.trans (hk 121 rfl)
  have e122 : y 122 = z122 := (hy 122).symm.trans (hk 122 rfl)
  have e123 : y 123 = z123 := (hy 123).symm.trans (hk 123 rfl)
  have e124 : y 124 = z124 := (hy 124).symm.trans (hk 124 rfl)
  have e125 : y 125 = z125 := (hy 125).symm.trans (hk 125 rfl)
  have e126 : y 126 = z126 := (hy 126).symm.trans (hk 126 rfl)
  have e127 : y 127 = z127 := (hy 127).symm.trans (hk 127 rfl)
  have e128 : y 128 = z128 := (hy 128).symm.trans (hk 128 rfl)
  have e129 : y 129 = z129 := (hy 129).symm.trans (hk 129 rfl)
  have e130 : y 130 = z130 := (hy 130).symm.trans (hk 130 rfl)
  have e131 : y 131 = z131 := (hy 131).symm.trans (hk 131 rfl)
  have e132 : y 132 = z132 := (hy 132).symm.trans (hk 132 rfl)
  have e133 : y 133 = z133 := (hy 133).symm.trans (hk 133 rfl)
  have e134 : y 134 = z134 := (hy 134).symm.trans (hk 134 rfl)
  have e135 : y 135 = z135 := (hy 135).symm.trans (hk 135 rfl)
  have e136 : y 136 = z136 := (hy 136).symm.trans (hk 136 rfl)
  have e137 : y 137 = z137 := (hy 137).symm.trans (hk 137 rfl)
  have e138 : y 138 = z138 := (hy 138).symm.trans (hk 138 rfl)
  have e139 : y 139 = z139 := (hy 139).symm.trans (hk 139 rfl)
  have e140 : y 140 = z140 := (hy 140).symm.trans (hk 140 rfl)
  have e141 : y 141 = z141 := (hy 141).symm.trans (hk 141 rfl)
  have e142 : y 142 = z142 := (hy 142).symm.trans (hk 142 rfl)
  have e143 : y 143 = z143 := (hy 143).symm.trans (hk 143 rfl)
  have e144 : y 144 = z144 := (hy 144).symm.trans (hk 144 rfl)
  have e145 : y 145 = z145 := (hy 145).symm.trans (hk 145 rfl)
  have e146 : y 146 = z146 := (hy 146).symm.trans (hk 146 rfl)
  have e147 : y 147 = z147 := (hy 147).symm.trans (hk 147 rfl)
  have e148 : y 148 = z148 := (hy 148).symm.trans (hk 148 rfl)
  have e149 : y 149 = z149 := (hy 149).symm.trans (hk 149 rfl)
  have e150 : y 150 = z150 := (hy 150).symm.trans (hk 150 rfl)
  have e151 : y 151 = z151 := (hy 151).symm.trans (hk 151 rfl)
  have e152 : y 152 = z152 := (hy 152).symm.trans (hk 152 rfl)
  have e153 : y 153 = z153 := (hy 153).symm.trans (hk 153 rfl)
  have e154 : y 154 = z154 := (hy 154).symm.trans (hk 154 rfl)
  have e155 : y 155 = z155 := (hy 155).symm.trans (hk 155 rfl)
  simp only [e0, e1, e2, e3, e4, e6, e7, e8, e9, e10, e11, e12, e13, e14, e15, e16, e17, e18, e19, e20, e21, e22, e23, e24, e25, e26, e27, e28, e46, e47, e48, e49, e50, e51, e52, e53, e54, e55, e56, e57, e58, e59, e60, e61, e62, e63, e64, e65, e66, e67, e68, e69, e70, e71, e72, e73, e74, e75, e76, e77, e78, e79, e80, e81, e82, e83, e84, e85, e86, e87, e88, e89, e90, e91, e92, e93, e94, e95, e96, e97, e98, e99, e100, e101, e102, e103, e104, e105, e106, e107, e108, e109, e110, e111, e112, e113, e114, e115, e116, e117, e118, e119, e120, e121, e122, e123, e124, e125, e126, e127, e128, e129, e130, e131, e132, e133, e134, e135, e136, e137, e138, e139, e140, e141, e142, e143, e144, e145, e146, e147, e148, e149, e150, e151, e152, e153, e154, e155]
set_option maxRecDepth 100000 in
theorem fr7 {z0 z1 z2 z3 z4 z5 z6 z7 z8 z9 z10 z11 z12 z13 z14 z15 z16 z17 z18 z19 z20 z21 z22 z23 z24 z25 z26 z27 z28 z29 z30 z31 z32 z33 z34 z35 z36 z37 z38 z39 z40 z41 z42 z43 z44 z45 z46 z47 z48 z49 z50 z51 z52 z53 z54 z55 z56 z57 z58 z59 z60 z61 z62 z63 z64 z65 z66 z67 z68 z69 z70 z71 z72 z73 z74 z75 z76 z77 z78 z79 z80 z81 z82 z83 z84 z85 z86 z87 z88 z89 z90 z91 z92 z93 z94 z95 z96 z97 z98 z99 z100 z101 z102 z103 z104 z105 z106 z107 z108 z109 z110 z111 z112 z113 z114 z115 z116 z117 z118 z119 z120 z121 z122 z123 z124 z125 z126 z127 z128 z129 z130 z131 z132 z133 z134 z135 z136 z137 z138 z139 z140 z141 z142 z143 z144 z145 z146 z147 z148 z149 z150 z151 z152 z153 z154 z155 : Value} {ts us : Array Value} (hz : ts = #[z0, z1, z2, z3, z4, z5, z6, z7, z8, z9, z10, z11, z12, z13, z14, z15, z16, z17, z18, z19, z20, z21, z22, z23, z24, z25, z26, z27, z28, z29, z30, z31, z32, z33, z34, z35, z36, z37, z38, z39, z40, z41, z42, z43, z44, z45, z46, z47, z48, z49, z50, z51, z52, z53, z54, z55, z56, z57, z58, z59, z60, z61, z62, z63, z64, z65, z66, z67, z68, z69, z70, z71, z72, z73, z74, z75, z76, z77, z78, z79, z80, z81, z82, z83, z84, z85, z86, z87, z88, z89, z90, z91, z92, z93, z94, z95, z96, z97, z98, z99, z100, z101, z102, z103, z104, z105, z106, z107, z108, z109, z110, z111, z112, z113, z114, z115, z116, z117, z118, z119, z120, z121, z122, z123, z124, z125, z126, z127, z128, z129, z130, z131, z132, z133, z134, z135, z136, z137, z138, z139, z140, z141, z142, z143, z144, z145, z146, z147, z148, z149, z150, z151, z152, z153, z154, z155]) (hs : us.size = ts.size) (hk : ∀ d, [57, 58, 59, 60, 61, 62, 63, 64, 65, 10, 11].contains d = false → us.getD d undef = ts.getD d undef) :
    ∃ y : Nat → Value, (∀ i, us.getD i undef = y i) ∧ us = #[z0, z1, z2, z3, z4, z5, z6, z7, z8, z9, y 10, y 11, z12, z13, z14, z15, z16, z17, z18, z19, z20, z21, z22, z23, z24, z25, z26, z27, z28, z29, z30, z31, z32, z33, z34, z35, z36, z37, z38, z39, z40, z41, z42, z43, z44, z45, z46, z47, z48, z49, z50, z51, z52, z53, z54, z55, z56, y 57, y 58, y 59, y 60, y 61, y 62, y 63, y 64, y 65, z66, z67, z68, z69, z70, z71, z72, z73, z74, z75, z76, z77, z78, z79, z80, z81, z82, z83, z84, z85, z86, z87, z88, z89, z90, z91, z92, z93, z94, z95, z96, z97, z98, z99, z100, z101, z102, z103, z104, z105, z106, z107, z108, z109, z110, z111, z112, z113, z114, z115, z116, z117, z118, z119, z120, z121, z122, z123, z124, z125, z126, z127, z128, z129, z130, z131, z132, z133, z134, z135, z136, z137, z138, z139, z140, z141, z142, z143, z144, z145, z146, z147, z148, z149, z150, z151, z152, z153, z154, z155] := by
  obtain ⟨y, hy, e⟩ := arrF156 (cs := us) (by rw [hs, hz]; rfl)
  subst hz
  refine ⟨y, hy, e.trans ?_⟩
  have e0 : y 0 = z0 := (hy 0).symm.trans (hk 0 rfl)
  have e1 : y 1 = z1 := (hy 1).symm.trans (hk 1 rfl)
  have e2 : y 2 = z2 := (hy 2).symm.trans (hk 2 rfl)
  have e3 : y 3 = z3 := (hy 3).symm.trans (hk 3 rfl)
  have e4 : y 4 = z4 := (hy 4).symm.trans (hk 4 rfl)
  have e5 : y 5 = z5 := (hy 5).symm.trans (hk 5 rfl)
  have e6 : y 6 = z6 := (hy 6).symm.trans (hk 6 rfl)
  have e7 : y 7 = z7 := (hy 7).symm.trans (hk 7 rfl)
  have e8 : y 8 = z8 := (hy 8).symm.trans (hk 8 rfl)
  have e9 : y 9 = z9 := (hy 9).symm.trans (hk 9 rfl)
  have e12 : y 12 = z12 := (hy 12).symm.trans (hk 12 rfl)
  have e13 : y 13 = z13 := (hy 13).symm.trans (hk 13 rfl)
  have e14 : y 14 = z14 := (hy 14).symm.trans (hk 14 rfl)
  have e15 : y 15 = z15 := (hy 15).symm.trans (hk 15 rfl)
  have e16 : y 16 = z16 := (hy 16).symm.trans (hk 16 rfl)
  have e17 : y 17 = z17 := (hy 17).symm.trans (hk 17 rfl)
  have e18 : y 18 = z18 := (hy 18).symm.trans (hk 18 rfl)
  have e19 : y 19 = z19 := (hy 19).symm.trans (hk 19 rfl)
  have e20 : y 20 = z20 := (hy 20).symm.trans (hk 20 rfl)
  have e21 : y 21 = z21 := (hy 21).symm.trans (hk 21 rfl)
  have e22 : y 22 = z22 := (hy 22).symm.trans (hk 22 rfl)
  have e23 : y 23 = z23 := (hy 23).symm.trans (hk 23 rfl)
  have e24 : y 24 = z24 := (hy 24).symm.trans (hk 24 rfl)
  have e25 : y 25 = z25 := (hy 25).symm.trans (hk 25 rfl)
  have e26 : y 26 = z26 := (hy 26).symm.trans (hk 26 rfl)
  have e27 : y 27 = z27 := (hy 27).symm.trans (hk 27 rfl)
  have e28 : y 28 = z28 := (hy 28).symm.trans (hk 28 rfl)
  have e29 : y 29 = z29 := (hy 29).symm.trans (hk 29 rfl)
  have e30 : y 30 = z30 := (hy 30).symm.trans (hk 30 rfl)
  have e31 : y 31 = z31 := (hy 31).symm.trans (hk 31 rfl)
  have e32 : y 32 = z32 := (hy 32).symm.trans (hk 32 rfl)
  have e33 : y 33 = z33 := (hy 33).symm.trans (hk 33 rfl)
  have e34 : y 34 = z34 := (hy 34).symm.trans (hk 34 rfl)
  have e35 : y 35 = z35 := (hy 35).symm.trans (hk 35 rfl)
  have e36 : y 36 = z36 := (hy 36).symm.trans (hk 36 rfl)
  have e37 : y 37 = z37 := (hy 37).symm.trans (hk 37 rfl)
  have e38 : y 38 = z38 := (hy 38).symm.trans (hk 38 rfl)
  have e39 : y 39 = z39 := (hy 39).symm.trans (hk 39 rfl)
  have e40 : y 40 = z40 := (hy 40).symm.trans (hk 40 rfl)
  have e41 : y 41 = z41 := (hy 41).symm.trans (hk 41 rfl)
  have e42 : y 42 = z42 := (hy 42).symm.trans (hk 42 rfl)
  have e43 : y 43 = z43 := (hy 43).symm.trans (hk 43 rfl)
  have e44 : y 44 = z44 := (hy 44).symm.trans (hk 44 rfl)
  have e45 : y 45 = z45 := (hy 45).symm.trans (hk 45 rfl)
  have e46 : y 46 = z46 := (hy 46).symm.trans (hk 46 rfl)
  have e47 : y 47 = z47 := (hy 47).symm.trans (hk 47 rfl)
  have e48 : y 48 = z48 := (hy 48).symm.trans (hk 48 rfl)
  have e49 : y 49 = z49 := (hy 49).symm.trans (hk 49 rfl)
  have e50 : y 50 = z50 := (hy 50).symm.trans (hk 50 rfl)
  have e51 : y 51 = z51 := (hy 51).symm.trans (hk 51 rfl)
  have e52 : y 52 = z52 := (hy 52).symm.trans (hk 52 rfl)
  have e53 : y 53 = z53 := (hy 53).symm.trans (hk 53 rfl)
  have e54 : y 54 = z54 := (hy 54).symm.trans (hk 54 rfl)
  have e55 : y 55 = z55 := (hy 55).symm.trans (hk 55 rfl)
  have e56 : y 56 = z56 := (hy 56).symm.trans (hk 56 rfl)
  have e66 : y 66 = z66 := (hy 66).symm.trans (hk 66 rfl)
  have e67 : y 67 = z67 := (hy 67).symm.trans (hk 67 rfl)
  have e68 : y 68 = z68 := (hy 68).symm.trans (hk 68 rfl)
  have e69 : y 69 = z69 := (hy 69).symm.trans (hk 69 rfl)
  have e70 : y 70 = z70 := (hy 70).symm.trans (hk 70 rfl)
  have e71 : y 71 = z71 := (hy 71).symm.trans (hk 71 rfl)
  have e72 : y 72 = z72 := (hy 72).symm.trans (hk 72 rfl)
  have e73 : y 73 = z73 := (hy 73).symm.trans (hk 73 rfl)
  have e74 : y 74 = z74 := (hy 74).symm.trans (hk 74 rfl)
  have e75 : y 75 = z75 := (hy 75).symm.trans (hk 75 rfl)
  have e76 : y 76 = z76 := (hy 76).symm.trans (hk 76 rfl)
  have e77 : y 77 = z77 := (hy 77).symm.trans (hk 77 rfl)
  have e78 : y 78 = z78 := (hy 78).symm.trans (hk 78 rfl)
  have e79 : y 79 = z79 := (hy 79).symm.trans (hk 79 rfl)
  have e80 : y 80 = z80 := (hy 80).symm.trans (hk 80 rfl)
  have e81 : y 81 = z81 := (hy 81).symm.trans (hk 81 rfl)
  have e82 : y 82 = z82 := (hy 82).symm.trans (hk 82 rfl)
  have e83 : y 83 = z83 := (hy 83).symm.trans (hk 83 rfl)
  have e84 : y 84 = z84 := (hy 84).symm.trans (hk 84 rfl)
  have e85 : y 85 = z85 := (hy 85).symm.trans (hk 85 rfl)
  have e86 : y 86 = z86 := (hy 86).symm.trans (hk 86 rfl)
  have e87 : y 87 = z87 := (hy 87).symm.trans (hk 87 rfl)
  have e88 : y 88 = z88 := (hy 88).symm.trans (hk 88 rfl)
  have e89 : y 89 = z89 := (hy 89).symm.trans (hk 89 rfl)
  have e90 : y 90 = z90 := (hy 90).symm.trans (hk 90 rfl)
  have e91 : y 91 = z91 := (hy 91).symm.trans (hk 91 rfl)
  have e92 : y 92 = z92 := (hy 92).symm.trans (hk 92 rfl)
  have e93 : y 93 = z93 := (hy 93).symm.trans (hk 93 rfl)
  have e94 : y 94 = z94 := (hy 94).symm.trans (hk 94 rfl)
  have e95 : y 95 = z95 := (hy 95).symm.trans (hk 95 rfl)
  have e96 : y 96 = z96 := (hy 96).symm.trans (hk 96 rfl)
  have e97 : y 97 = z97 := (hy 97).symm.trans (hk 97 rfl)
  have e98 : y 98 = z98 := (hy 98).symm.trans (hk 98 rfl)
  have e99 : y 99 = z99 := (hy 99).symm.trans (hk 99 rfl)
  have e100 : y 100 = z100 := (hy 100).symm.trans (hk 100 rfl)
  have e101 : y 101 = z101 := (hy 101).symm.trans (hk 101 rfl)
  have e102 : y 102 = z102 := (hy 102).symm.trans (hk 102 rfl)
  have e103 : y 103 = z103 := (hy 103).symm.trans (hk 103 rfl)
  have e104 : y 104 = z104 := (hy 104).symm.trans (hk 104 rfl)
  have e105 : y 105 = z105 := (hy 105).symm.trans (hk 105 rfl)
  have e106 : y 106 = z106 := (hy 106).symm.trans (hk 106 rfl)
  have e107 : y 107 = z107 := (hy 107).symm.trans (hk 107 rfl)
  have e108 : y 108 = z108 := (hy 108).symm.trans (hk 108 rfl)
  have e109 : y 109 = z109 := (hy 109).symm.trans (hk 109 rfl)
  have e110 : y 110 = z110 := (hy 110).symm.trans (hk 110 rfl)
  have e111 : y 111 = z111 := (hy 111).symm.trans (hk 111 rfl)
  have e112 : y 112 = z112 := (hy 112).symm.trans (hk 112 rfl)
  have e113 : y 113 = z113 := (hy 113).symm.trans (hk 113 rfl)
  have e114 : y 114 = z114 := (hy 114).symm.trans (hk 114 rfl)
  have e115 : y 115 = z115 := (hy 115).symm.trans (hk 115 rfl)
  have e116 : y 116 = z116 := (hy 116).symm.trans (hk 116 rfl)
  have e117 : y 117 = z117 := (hy 117).symm.trans (hk 117 rfl)
  have e118 : y 118 = z118 := (hy 118).symm.trans (hk 118 rfl)
  have e119 : y 119 = z119 := (hy 119).symm.trans (hk 119 rfl)
  have e120 : y 120 = z120 := (hy 120).symm.trans (hk 120 rfl)
  have e121 : y 121 = z121 := (hy 121).symm.trans (hk 121 rfl)
  have e122 : y 122 = z122 := (hy 122).symm.trans (hk 122 rfl)
  have e123 : y 123 = z123 := (hy 123).symm.trans (hk 123 rfl)
  have e124 : y 124 = z124 := (hy 124).symm.trans (hk 124 rfl)
  have e125 : y 125 = z125 := (hy 125).symm.trans (hk 125 rfl)
  have e126 : y 126 = z126 := (hy 126).symm.trans (hk 126 rfl)
  have e127 : y 127 = z127 := (hy 127).symm.trans (hk 127 rfl)
  have e128 : y 128 = z128 := (hy 128).symm.trans (hk 128 rfl)
  have e129 : y 129 = z129 := (hy 129).symm.trans (hk 129 rfl)
  have e130 : y 130 = z130 := (hy 130).symm.trans (hk 130 rfl)
  have e131 : y 131 = z131 := (hy 131).symm.trans (hk 131 rfl)
  have e132 : y 132 = z132 := (hy 132).symm.trans (hk 132 rfl)
  have e133 : y 133 = z133 := (hy 133).symm.trans (hk 133 rfl)
  have e134 : y 134 = z134 := (hy 134).symm.trans (hk 134 rfl)
  have e135 : y 135 = z135 := (hy 135).symm.trans (hk 135 rfl)
  have e136 : y 136 = z136 := (hy 136).symm.trans (hk 136 rfl)
  have e137 : y 137 = z137 := (hy 137).symm.trans (hk 137 rfl)
  have e138 : y 138 = z138 := (hy 138).symm.trans (hk 138 rfl)
  have e139 : y 139 = z139 := (hy 139).symm.trans (hk 139 rfl)
  have e140 : y 140 = z140 := (hy 140).symm.trans (hk 140 rfl)
  have e141 : y 141 = z141 := (hy 141).symm.trans (hk 141 rfl)
  have e142 : y 142 = z142 := (hy 142).symm.trans (hk 142 rfl)
  have e143 : y 143 = z143 := (hy 143).symm.trans (hk 143 rfl)
  have e144 : y 144 = z144 := (hy 144).symm.trans (hk 144 rfl)
  have e145 : y 145 = z145 := (hy 145).symm.trans (hk 145 rfl)
  have e146 : y 146 = z146 := (hy 146).symm.trans (hk 146 rfl)
  have e147 : y 147 = z147 := (hy 147).symm.trans (hk 147 rfl)
  have e148 : y 148 = z148 := (hy 148).symm.trans (hk 148 rfl)
  have e149 : y 149 = z149 := (hy 149).symm.trans (hk 149 rfl)
  have e150 : y 150 = z150 := (hy 150).symm.trans (hk 150 rfl)
  have e151 : y 151 = z151 := (hy 151).symm.trans (hk 151 rfl)
  have e152 : y 152 = z152 := (hy 152).symm.trans (hk 152 rfl)
  have e153 : y 153 = z153 := (hy 153).symm.trans (hk 153 rfl)
  have e154 : y 154 = z154 := (hy 154).symm.trans (hk 154 rfl)
  have e155 : y 155 = z155 := (hy 155).symm.trans (hk 155 rfl)
  simp only [e0, e1, e2, e3, e4, e5, e6, e7, e8, e9, e12, e13, e14, e15, e16, e17, e18, e19, e20, e21, e22, e23, e24, e25, e26, e27, e28, e29, e30, e31, e32, e33, e34, e35, e36, e37, e38, e39, e40, e41, e42, e43, e44, e45, e46, e47, e48, e49, e50, e51, e52, e53, e54, e55, e56, e66, e67, e68, e69, e70, e71, e72, e73, e74, e75, e76, e77, e78, e79, e80, e81, e82, e83, e84, e85, e86, e87, e88, e89, e90, e91, e92, e93, e94, e95, e96, e97, e98, e99, e100, e101, e102, e103, e104, e105, e106, e107, e108, e109, e110, e111, e112, e113, e114, e115, e116, e117, e118, e119, e120, e121, e122, e123, e124, e125, e126, e127, e128, e129, e130, e131, e132, e133, e134, e135, e136, e137, e138, e139, e140, e141, e142, e143, e144, e145, e146, e147, e148, e149, e150, e151, e152, e153, e154, e155]
set_option maxRecDepth 100000 in
set_option maxHeartbeats 64000000 in
theorem walk (sg st : Int) (Az : Option Addr) (m0 pz : Nat) (Bz : Option Addr) (k0 qz : Nat) (Cz : Option Addr) (n0 rz : Nat) (o0 l0 f0 : List Int) (X : Int) (w : World) (ht0 : TIn w Az m0 Bz k0 Cz n0 o0 l0 f0) (hm0 : m0 ≤ maxLen ∧ k0 ≤ maxLen ∧ n0 ≤ maxLen) (hp0 : m0 ≤ pz ∧ k0 ≤ qz ∧ n0 ≤ rz) (_ : (Lit.int .u64 X).wf = true) :
    Calls Try.prog 6 #[.agg #[.int .i64 sg, .int .i64 st, .slice Az m0 pz, .slice Bz k0 qz, .slice Cz n0 rz], .int .u64 X] w fun e w' => e = .returned (.bool true) ∧ Below w.heap.size w w' := by
  have BB := below1 w (.cells #[.int .i64 sg, .int .i64 st, .slice Az m0 pz, .slice Bz k0 qz, .slice Cz n0 rz] 28)
  have Kz : Blk (w.alloc (.cells #[.int .i64 sg, .int .i64 st, .slice Az m0 pz, .slice Bz k0 qz, .slice Cz n0 rz] 28)) w.heap.size 28 (csT sg st Az m0 pz Bz k0 qz Cz n0 rz) := Blk.new w _ _
  have CT := Lib.hid (fun w' => lawcut_any sg st Az m0 pz Bz k0 qz Cz n0 rz w' hm0.1 hm0.2.1 hm0.2.2 hp0.1 hp0.2.1 hp0.2.2)
  have tz0 := ht0.cut
  have hmz : cut20 m0 ≤ maxLen := Nat.le_trans (cut20_self m0) hm0.1
  have hkz : cut20 k0 ≤ maxLen := Nat.le_trans (cut20_self k0) hm0.2.1
  have hnz : cut20 n0 ≤ maxLen := Nat.le_trans (cut20_self n0) hm0.2.2
  have mpz : cut20 m0 ≤ pz := Nat.le_trans (cut20_self m0) hp0.1
  have hv := Try.zeroValue28
  have hv2 := Try.zeroValue32
  clear ht0 hm0 hp0
  generalize cut20 m0 = mz at *
  generalize cut20 k0 = kz at *
  generalize cut20 n0 = nz at *
  generalize o0.take 20 = o at *
  generalize l0.take 20 = l at *
  generalize f0.take 20 = f at *
  obtain ⟨wa, EW⟩ : ∃ wa, Hid (w.alloc (.cells #[.int .i64 sg, .int .i64 st, .slice Az m0 pz, .slice Bz k0 qz, .slice Cz n0 rz] 28) = wa) := ⟨_, rfl⟩
  rw [EW.out] at BB Kz
  go_enter Try.func6, Try.ntmps6
  go_upto_region 1 with fail
  rw [EW.out]
  clear EW
  go_wp2_with (with_reducible refine load_t rfl (.tmp 2) rfl w.heap.size rfl Kz ?_)
  refine (CT.out _).mono ?_
  rintro e' w1 ⟨rfl, hb⟩
  replace Kz := Kz.later hb
  replace BB := Ge.trans BB hb
  clear hb CT
  go_upto_region 2 with (with_reducible refine store_t rfl (.tmp 2) (.tmp 18) rfl w.heap.size rfl rfl Kz ?_)
  replace BB := below_row BB (Nat.le_refl _) (csT sg st Az mz pz Bz kz qz Cz nz rz)
  replace Kz := Kz.row (csT sg st Az mz pz Bz kz qz Cz nz rz)
  have tz := tz0.later BB
  generalize w1.setRow w.heap.size (csT sg st Az mz pz Bz kz qz Cz nz rz) = wb at *
  obtain ⟨b, Hb⟩ : ∃ b, okT ⟨sg, st, o, l, f⟩ = b := ⟨_, rfl⟩
  go_wp2_with (first | (with_reducible refine load_t rfl (.tmp 2) rfl w.heap.size rfl Kz ?_))
  refine (ref_any sg st Az mz pz Bz kz qz Cz nz rz _).mono ?_
  rintro e' wc ⟨rfl, hb⟩
  replace Kz := Kz.later hb
  replace tz := tz.later hb
  replace BB := Ge.trans BB hb
  clear hb
  go_wp2_with (first | (with_reducible refine load_t rfl (.tmp 2) rfl w.heap.size rfl Kz ?_))
  refine (rright_is sg st Az mz pz Bz kz qz Cz nz rz o l f b _ tz hmz hkz hnz Hb).mono ?_
  rintro e' wd ⟨rfl, hb⟩
  replace Kz := Kz.later hb
  replace tz := tz.later hb
  replace BB := Ge.trans BB hb
  clear hb
  cases b
  case false =>
    go_wp2_with (first | (with_reducible refine load_t rfl (.tmp 2) rfl w.heap.size rfl Kz ?_))
    refine (right_is sg st Az mz pz Bz kz qz Cz nz rz o l f false _ tz hmz hkz hnz mpz Hb).mono ?_
    rintro e' we ⟨rfl, hb⟩
    replace Kz := Kz.later hb
    replace tz := tz.later hb
    replace BB := Ge.trans BB hb
    clear hb
    go_wp2_with (first | (with_reducible refine load_t rfl (.tmp 2) rfl w.heap.size rfl Kz ?_))
    refine (fixed_any _).mono ?_
    rintro e' wf ⟨rfl, hb⟩
    replace Kz := Kz.later hb
    replace tz := tz.later hb
    replace BB := Ge.trans BB hb
    clear hb
    go_wp2_with fail
    go_ret
    exact ⟨rfl, BB⟩
  case true =>
    have hok := (okT_iff _).1 Hb
    clear Hb
    have hm1 := (ok_full hok tz).2.1
    have hk1 : 1 ≤ kz ∧ kz ≤ 16 := by have := (ok_full hok tz).2.2.1; omega
    have hn1 : 1 ≤ nz ∧ nz ≤ 16 := by have := (ok_full hok tz).2.2.2.1; omega
    have HK := Lib.hid hok
    clear hok tz0
    go_wp2_with fail
    refine FreeC.wp_freeC (List.map CndR.p [.is (.pointer (some ⟨w.heap.size, 0, none⟩)), .is (.int .i64 sg), .is (.pointer (some ⟨w.heap.size, 1, none⟩)), .is (.int .i64 st), .emp, .is (.pointer (some ⟨w.heap.size, 2, none⟩)), .is (.slice Az mz pz), .own .i64 3 wd.heap.size mz o, .emp, .is (.pointer (some ⟨w.heap.size, 3, none⟩)), .is (.slice Bz kz qz), .own .i64 3 wd.heap.size kz l, .emp, .is (.pointer (some ⟨w.heap.size, 4, none⟩)), .is (.slice Cz nz rz), .own .u64 23 wd.heap.size nz f, .rows wd.heap.size sg st mz kz nz o l f, .any, .any]) (OzC wd sg st mz kz nz o l f) (by kernel_rfl) (by kernel_rfl) ⟨below_drawn _, fun e => by simp at e, fun e => by simp at e⟩ ?_ ?_
    · refine ⟨?_, ?_, ?_, ?_, ?_, ?_, ?_, ?_, ?_, ?_, ?_, ?_, ?_, ?_, ?_, ?_, ?_, ?_, ?_, trivial⟩
      · intro listed A0 W hA hno hr K' hK
        have hsl := hA.size
        simp at hsl
        have hts : A0.tmps.size = 156 := hA.slots.trans rfl
        have e2 : A0.tmps[2]?.getD undef = .pointer (some ⟨w.heap.size, 0, none⟩) := slot_is ((hA.kept 2 (Free.not_dst (by kernel_rfl))).trans rfl)
        simp [go_sem, e2]
        exact hK _ _ (hA.c.step 0 29 _ (by omega) (by omega) (by omega) (Below.refl _ _)) rfl (fun j u _ _ hu => CndR.keep (Below.refl _ _) hu)
      · intro listed A0 W hA hno hr K' hK
        have hsl := hA.size
        simp at hsl
        have hts : A0.tmps.size = 156 := hA.slots.trans rfl
        have e29 : A0.tmps[29]?.getD undef = .pointer (some ⟨w.heap.size, 0, none⟩) := slot_is (hA.val 0 _ rfl (hr ⟨0, .data⟩ (by simp) rfl))
        have c0 : W.cell? ⟨w.heap.size, 0, none⟩ = some (.int .i64 sg) := (Kz.later hA.c.b).cell 0
        simp [go_sem, e29, c0]
        exact hK _ _ (hA.c.step 1 30 _ (by omega) (by omega) (by omega) (Below.refl _ _)) rfl (fun j u _ _ hu => CndR.keep (Below.refl _ _) hu)
      · intro listed A0 W hA hno hr K' hK
        have hsl := hA.size
        simp at hsl
        have hts : A0.tmps.size = 156 := hA.slots.trans rfl
        have e2 : A0.tmps[2]?.getD undef = .pointer (some ⟨w.heap.size, 0, none⟩) := slot_is ((hA.kept 2 (Free.not_dst (by kernel_rfl))).trans rfl)
        simp [go_sem, e2]
        exact hK _ _ (hA.c.step 2 31 _ (by omega) (by omega) (by omega) (Below.refl _ _)) rfl (fun j u _ _ hu => CndR.keep (Below.refl _ _) hu)
      · intro listed A0 W hA hno hr K' hK
        have hsl := hA.size
        simp at hsl
        have hts : A0.tmps.size = 156 := hA.slots.trans rfl
        have e31 : A0.tmps[31]?.getD undef = .pointer (some ⟨w.heap.size, 1, none⟩) := slot_is (hA.val 2 _ rfl (hr ⟨2, .data⟩ (by simp) rfl))
        have c0 : W.cell? ⟨w.heap.size, 1, none⟩ = some (.int .i64 st) := (Kz.later hA.c.b).cell 1
        simp [go_sem, e31, c0]
        exact hK _ _ (hA.c.step 3 32 _ (by omega) (by omega) (by omega) (Below.refl _ _)) rfl (fun j u _ _ hu => CndR.keep (Below.refl _ _) hu)
      · intro listed A0 W hA hno hr K' hK
        have hsl := hA.size
        simp at hsl
        have hts : A0.tmps.size = 156 := hA.slots.trans rfl
        simp [go_sem]
        exact hK _ _ (hA.c.step 4 33 _ (by omega) (by omega) (by omega) (below1 _ _)) ⟨_, rfl⟩ (fun j u _ _ hu => CndR.keep (below1 _ _) hu)
      · intro listed A0 W hA hno hr K' hK
        have hsl := hA.size
        simp at hsl
        have hts : A0.tmps.size = 156 := hA.slots.trans rfl
        have e2 : A0.tmps[2]?.getD undef = .pointer (some ⟨w.heap.size, 0, none⟩) := slot_is ((hA.kept 2 (Free.not_dst (by kernel_rfl))).trans rfl)
        simp [go_sem, e2]
        exact hK _ _ (hA.c.step 5 34 _ (by omega) (by omega) (by omega) (Below.refl _ _)) rfl (fun j u _ _ hu => CndR.keep (Below.refl _ _) hu)
      · intro listed A0 W hA hno hr K' hK
        have hsl := hA.size
        simp at hsl
        have hts : A0.tmps.size = 156 := hA.slots.trans rfl
        have e34 : A0.tmps[34]?.getD undef = .pointer (some ⟨w.heap.size, 2, none⟩) := slot_is (hA.val 5 _ rfl (hr ⟨5, .data⟩ (by simp) rfl))
        have c0 : W.cell? ⟨w.heap.size, 2, none⟩ = some (.slice Az mz pz) := (Kz.later hA.c.b).cell 2
        simp [go_sem, e34, c0]
        exact hK _ _ (hA.c.step 6 35 _ (by omega) (by omega) (by omega) (Below.refl _ _)) rfl (fun j u _ _ hu => CndR.keep (Below.refl _ _) hu)
      · intro listed A0 W hA hno hr K' hK
        have hsl := hA.size
        simp at hsl
        have hts : A0.tmps.size = 156 := hA.slots.trans rfl
        obtain ⟨g0, e33⟩ : ∃ g0, A0.tmps[33]?.getD undef = .slice (some ⟨g0, 0, none⟩) 0 0 := slot_emp (hA.val 4 _ rfl (hr ⟨4, .data⟩ (by simp) rfl))
        have e35 : A0.tmps[35]?.getD undef = .slice Az mz pz := slot_is (hA.val 6 _ rfl (hr ⟨6, .data⟩ (by simp) rfl))
        obtain ⟨p', W5, R, own5, hb, _⟩ := from_empty (T := 25) Try.underlying25 infoI rfl ((tz.a).later hA.c.b) (p := pz) (by omega) (by omega) g0 hA.c.b.size
        unfold Oper.wp
        simp only [execOp, resolve, invoke, builtin, Sem.run_bind, Sem.run_pure, Result.andThen_ok, List.map_toArray, List.map_cons, List.map_nil, Act.eval, Array.getD_eq_getD_getElem?, e33, e35, R]
        exact hK _ _ (hA.c.step 7 36 _ (by omega) (by omega) (by omega) hb) ⟨by decide, _, p', rfl, own5⟩ (fun j u _ _ hu => CndR.keep hb hu)
      · intro listed A0 W hA hno hr K' hK
        have hsl := hA.size
        simp at hsl
        have hts : A0.tmps.size = 156 := hA.slots.trans rfl
        simp [go_sem]
        exact hK _ _ (hA.c.step 8 37 _ (by omega) (by omega) (by omega) (below1 _ _)) ⟨_, rfl⟩ (fun j u _ _ hu => CndR.keep (below1 _ _) hu)
      · intro listed A0 W hA hno hr K' hK
        have hsl := hA.size
        simp at hsl
        have hts : A0.tmps.size = 156 := hA.slots.trans rfl
        have e2 : A0.tmps[2]?.getD undef = .pointer (some ⟨w.heap.size, 0, none⟩) := slot_is ((hA.kept 2 (Free.not_dst (by kernel_rfl))).trans rfl)
        simp [go_sem, e2]
        exact hK _ _ (hA.c.step 9 38 _ (by omega) (by omega) (by omega) (Below.refl _ _)) rfl (fun j u _ _ hu => CndR.keep (Below.refl _ _) hu)
      · intro listed A0 W hA hno hr K' hK
        have hsl := hA.size
        simp at hsl
        have hts : A0.tmps.size = 156 := hA.slots.trans rfl
        have e38 : A0.tmps[38]?.getD undef = .pointer (some ⟨w.heap.size, 3, none⟩) := slot_is (hA.val 9 _ rfl (hr ⟨9, .data⟩ (by simp) rfl))
        have c0 : W.cell? ⟨w.heap.size, 3, none⟩ = some (.slice Bz kz qz) := (Kz.later hA.c.b).cell 3
        simp [go_sem, e38, c0]
        exact hK _ _ (hA.c.step 10 39 _ (by omega) (by omega) (by omega) (Below.refl _ _)) rfl (fun j u _ _ hu => CndR.keep (Below.refl _ _) hu)
      · intro listed A0 W hA hno hr K' hK
        have hsl := hA.size
        simp at hsl
        have hts : A0.tmps.size = 156 := hA.slots.trans rfl
        obtain ⟨g0, e37⟩ : ∃ g0, A0.tmps[37]?.getD undef = .slice (some ⟨g0, 0, none⟩) 0 0 := slot_emp (hA.val 8 _ rfl (hr ⟨8, .data⟩ (by simp) rfl))
        have e39 : A0.tmps[39]?.getD undef = .slice Bz kz qz := slot_is (hA.val 10 _ rfl (hr ⟨10, .data⟩ (by simp) rfl))
        obtain ⟨p', W5, R, own5, hb, _⟩ := from_empty (T := 25) Try.underlying25 infoI rfl ((tz.b).later hA.c.b) (p := qz) (by omega) (by omega) g0 hA.c.b.size
        unfold Oper.wp
        simp only [execOp, resolve, invoke, builtin, Sem.run_bind, Sem.run_pure, Result.andThen_ok, List.map_toArray, List.map_cons, List.map_nil, Act.eval, Array.getD_eq_getD_getElem?, e37, e39, R]
        exact hK _ _ (hA.c.step 11 40 _ (by omega) (by omega) (by omega) hb) ⟨by decide, _, p', rfl, own5⟩ (fun j u _ _ hu => CndR.keep hb hu)
      · intro listed A0 W hA hno hr K' hK
        have hsl := hA.size
        simp at hsl
        have hts : A0.tmps.size = 156 := hA.slots.trans rfl
        simp [go_sem]
        exact hK _ _ (hA.c.step 12 41 _ (by omega) (by omega) (by omega) (below1 _ _)) ⟨_, rfl⟩ (fun j u _ _ hu => CndR.keep (below1 _ _) hu)
      · intro listed A0 W hA hno hr K' hK
        have hsl := hA.size
        simp at hsl
        have hts : A0.tmps.size = 156 := hA.slots.trans rfl
        have e2 : A0.tmps[2]?.getD undef = .pointer (some ⟨w.heap.size, 0, none⟩) := slot_is ((hA.kept 2 (Free.not_dst (by kernel_rfl))).trans rfl)
        simp [go_sem, e2]
        exact hK _ _ (hA.c.step 13 42 _ (by omega) (by omega) (by omega) (Below.refl _ _)) rfl (fun j u _ _ hu => CndR.keep (Below.refl _ _) hu)
      · intro listed A0 W hA hno hr K' hK
        have hsl := hA.size
        simp at hsl
        have hts : A0.tmps.size = 156 := hA.slots.trans rfl
        have e42 : A0.tmps[42]?.getD undef = .pointer (some ⟨w.heap.size, 4, none⟩) := slot_is (hA.val 13 _ rfl (hr ⟨13, .data⟩ (by simp) rfl))
        have c0 : W.cell? ⟨w.heap.size, 4, none⟩ = some (.slice Cz nz rz) := (Kz.later hA.c.b).cell 4
        simp [go_sem, e42, c0]
        exact hK _ _ (hA.c.step 14 43 _ (by omega) (by omega) (by omega) (Below.refl _ _)) rfl (fun j u _ _ hu => CndR.keep (Below.refl _ _) hu)
      · intro listed A0 W hA hno hr K' hK
        have hsl := hA.size
        simp at hsl
        have hts : A0.tmps.size = 156 := hA.slots.trans rfl
        obtain ⟨g0, e41⟩ : ∃ g0, A0.tmps[41]?.getD undef = .slice (some ⟨g0, 0, none⟩) 0 0 := slot_emp (hA.val 12 _ rfl (hr ⟨12, .data⟩ (by simp) rfl))
        have e43 : A0.tmps[43]?.getD undef = .slice Cz nz rz := slot_is (hA.val 14 _ rfl (hr ⟨14, .data⟩ (by simp) rfl))
        obtain ⟨p', W5, R, own5, hb, _⟩ := from_empty (T := 26) Try.underlying26 infoU rfl ((tz.c).later hA.c.b) (p := rz) (by omega) (by omega) g0 hA.c.b.size
        unfold Oper.wp
        simp only [execOp, resolve, invoke, builtin, Sem.run_bind, Sem.run_pure, Result.andThen_ok, List.map_toArray, List.map_cons, List.map_nil, Act.eval, Array.getD_eq_getD_getElem?, e41, e43, R]
        exact hK _ _ (hA.c.step 15 44 _ (by omega) (by omega) (by omega) hb) ⟨by decide, _, p', rfl, own5⟩ (fun j u _ _ hu => CndR.keep hb hu)
      · intro listed A0 W hA hno hr K' hK
        have hsl := hA.size
        simp at hsl
        have hts : A0.tmps.size = 156 := hA.slots.trans rfl
        have e30 : A0.tmps[30]?.getD undef = .int .i64 sg := slot_is (hA.val 1 _ rfl (hr ⟨1, .data⟩ (by simp) rfl))
        have e32 : A0.tmps[32]?.getD undef = .int .i64 st := slot_is (hA.val 3 _ rfl (hr ⟨3, .data⟩ (by simp) rfl))
        obtain ⟨g7, p7, e36, o7⟩ := slot_ownr (hA.val 7 _ rfl (hr ⟨7, .data⟩ (by simp) rfl))
        obtain ⟨g11, p11, e40, o11⟩ := slot_ownr (hA.val 11 _ rfl (hr ⟨11, .data⟩ (by simp) rfl))
        obtain ⟨g15, p15, e44, o15⟩ := slot_ownr (hA.val 15 _ rfl (hr ⟨15, .data⟩ (by simp) rfl))
        simp [go_sem, e30, e32, e36, e40, e44]
        exact hK _ _ (hA.c.step 16 45 _ (by omega) (by omega) (by omega) (Below.refl _ _)) ⟨_, _, _, _, _, _, rfl, o7, o11, o15⟩ (fun j u _ _ hu => CndR.keep (Below.refl _ _) hu)
      · intro listed A0 W hA hno hr K' hK
        have hsl := hA.size
        simp at hsl
        have hts : A0.tmps.size = 156 := hA.slots.trans rfl
        simp [go_sem, hv2]
        exact hK _ _ (hA.c.alloc (by omega) (by omega) hno) trivial (fun j u _ _ hu => CndR.keep (below1 _ _) hu)
      · intro listed A0 W hA hno hr K' hK
        have hsl := hA.size
        simp at hsl
        have hts : A0.tmps.size = 156 := hA.slots.trans rfl
        obtain ⟨A1, p1, B1, q1, C1, r1, e45, R1⟩ := hA.val 16 _ rfl (hr ⟨16, .data⟩ (by simp) rfl)
        obtain ⟨b, e5, hbb, hB, _⟩ := hA.c.blk (hr ⟨17, .data⟩ (by simp) rfl)
        have hB' := hB (not_listed (by omega) hno)
        refine wp_store_row _ (.tmp 5) (.tmp 45) rfl b (csT sg st A1 mz p1 B1 kz q1 C1 nz r1) e5 e45 _ _ hB' info_r rfl (csT_one _ _ _ _ _ _ _ _ _ _ _) ?_
        exact hK _ _ (hA.c.store (by omega) (hr ⟨17, .data⟩ (by simp) rfl) e5 hB' hbb R1) trivial (fun j u _ _ hu => CndR.lift (fun c => c.far hB' _) hu)
    · intro A0 W4 hA
      have hde := hA.defers
      obtain ⟨y, hy, ee⟩ := fr4 rfl hA.slots (fun d hd => hA.kept d (kept_of (dsts := [29, 30, 31, 32, 33, 34, 35, 36, 37, 38, 39, 40, 41, 42, 43, 44, 45, 5]) (by kernel_rfl) hd))
      obtain ⟨by_, s5, hby, -, hbl⟩ := hA.c.blk rfl
      obtain ⟨Ay, py, By, qy, Cy, ry, Ky, TR⟩ := hbl rfl
      have ty := TR.tin
      replace BB := Ge.trans BB hA.c.b
      replace Kz := Kz.later hA.c.b
      replace tz := tz.later hA.c.b
      clear hA TR hbl
      obtain ⟨tm, de⟩ := A0
      simp only at s5 ee hde hy
      have t5 := (hy 5).symm.trans s5
      rw [t5] at ee
      clear hy s5 t5
      subst ee hde
      have lw := Below.refl W4.heap.size W4
      have hs0 := lw.size
      have HF := Lib.hid (And.intro BB (And.intro Ky (And.intro ty (And.intro Kz tz))))
      clear BB Ky ty
      obtain ⟨⟨sga, sta, oa, la, fa⟩, Ha⟩ : ∃ u, Hid (tabOf (rollT ⟨sg, st, o, l, f⟩ X) = u) := ⟨_, Lib.hid rfl⟩
      obtain ⟨era, Ya⟩ : ∃ y, Hid (errOf (rollT ⟨sg, st, o, l, f⟩ X) 10 = y) := ⟨_, Lib.hid rfl⟩
      have hla := roll_len (x := X) HK.out
      rw [Ha.out] at hla
      simp only at hla
      go_wp2_with (first | (with_reducible refine load_t rfl (.tmp 2) rfl w.heap.size rfl Kz ?_))
      refine (resv (sg := sga) (st := sta) (o := oa) (l := la) (f' := fa) (y' := era) (roll_any sg st Az mz pz Bz kz qz Cz nz rz o l f X _ tz HK.out) Ha.out Ya.out).mono ?_
      rintro e' wa ⟨Aa, ma, pa, Ba, ka, qa, Ca, na, ra, rfl, ta, mpa, fra, hb⟩
      replace Kz := Kz.later hb
      replace tz := tz.later hb
      replace lw := Ge.trans lw hb
      have Pa : PRv W4.heap.size (.agg #[.int .i64 sga, .int .i64 sta, .slice Aa ma pa, .slice Ba ka qa, .slice Ca na ra]) wa := ⟨sga, sta, Aa, ma, pa, Ba, ka, qa, Ca, na, ra, rfl, ⟨by rw [ta.a.len]; exact hla.1, by rw [ta.b.len]; exact hla.2.1, by rw [ta.c.len]; exact hla.2.2⟩, Wr.of fra.1 hs0, Wr.of fra.2.1 hs0, Wr.of fra.2.2 hs0⟩
      clear hb fra hla
      have Na : Blk (wa.alloc (.cells #[.int .i64 0, .int .i64 0, .slice none 0 0, .slice none 0 0, .slice none 0 0] 28)) wa.heap.size 28 (csT 0 0 none 0 0 none 0 0 none 0 0) := Blk.new wa _ _
      go_upto_region 6 with (with_reducible refine store_t rfl (.tmp 6) (.tmp 50) rfl wa.heap.size rfl rfl Na ?_)
      have hb3 : Below wa.heap.size wa ((wa.alloc (.cells #[.int .i64 0, .int .i64 0, .slice none 0 0, .slice none 0 0, .slice none 0 0] 28)).setRow wa.heap.size (csT sga sta Aa ma pa Ba ka qa Ca na ra)) := below_row (below1 _ _) (Nat.le_refl _) _
      have Ka : Blk ((wa.alloc (.cells #[.int .i64 0, .int .i64 0, .slice none 0 0, .slice none 0 0, .slice none 0 0] 28)).setRow wa.heap.size (csT sga sta Aa ma pa Ba ka qa Ca na ra)) wa.heap.size 28 (csT sga sta Aa ma pa Ba ka qa Ca na ra) := Na.row _
      replace Kz := Kz.later hb3
      replace tz := tz.later hb3
      replace ta := ta.later hb3
      replace lw := Ge.trans lw hb3
      replace Pa := Pa.later hb3
      clear hb3 Na
      generalize (wa.alloc (.cells #[.int .i64 0, .int .i64 0, .slice none 0 0, .slice none 0 0, .slice none 0 0] 28)).setRow wa.heap.size (csT sga sta Aa ma pa Ba ka qa Ca na ra) = ya at *
      generalize wa.heap.size = ba at *
      clear ta mpa
      have hs0 := lw.size
      obtain ⟨⟨sgb, stb, ob, lb, fb⟩, Hb⟩ : ∃ u, Hid (tabOf (countT ⟨sg, st, o, l, f⟩) = u) := ⟨_, Lib.hid rfl⟩
      obtain ⟨erb, Yb⟩ : ∃ y, Hid (errOf (countT ⟨sg, st, o, l, f⟩) 10 = y) := ⟨_, Lib.hid rfl⟩
      have hlb := count_len HK.out
      rw [Hb.out] at hlb
      simp only at hlb
      go_wp2_with (first | (with_reducible refine load_t rfl (.tmp 2) rfl w.heap.size rfl Kz ?_) | (with_reducible refine load_t rfl (.tmp 6) rfl ba rfl Ka ?_))
      refine (resv (sg := sgb) (st := stb) (o := ob) (l := lb) (f' := fb) (y' := erb) (count_any sg st Az mz pz Bz kz qz Cz nz rz o l f _ tz HK.out) Hb.out Yb.out).mono ?_
      rintro e' wb ⟨Ab, mb, pb, Bb, kb, qb, Cb, nb, rb, rfl, tb, mpb, frb, hb⟩
      replace Kz := Kz.later hb
      replace tz := tz.later hb
      replace Ka := Ka.later hb
      replace Pa := Pa.later hb
      replace lw := Ge.trans lw hb
      have Pb : PRv W4.heap.size (.agg #[.int .i64 sgb, .int .i64 stb, .slice Ab mb pb, .slice Bb kb qb, .slice Cb nb rb]) wb := ⟨sgb, stb, Ab, mb, pb, Bb, kb, qb, Cb, nb, rb, rfl, ⟨by rw [tb.a.len]; exact hlb.1, by rw [tb.b.len]; exact hlb.2.1, by rw [tb.c.len]; exact hlb.2.2⟩, Wr.of frb.1 hs0, Wr.of frb.2.1 hs0, Wr.of frb.2.2 hs0⟩
      clear hb frb hlb
      have Nb : Blk (wb.alloc (.cells #[.int .i64 0, .int .i64 0, .slice none 0 0, .slice none 0 0, .slice none 0 0] 28)) wb.heap.size 28 (csT 0 0 none 0 0 none 0 0 none 0 0) := Blk.new wb _ _
      go_upto_region 7 with (with_reducible refine store_t rfl (.tmp 8) (.tmp 55) rfl wb.heap.size rfl rfl Nb ?_)
      have hb3 : Below wb.heap.size wb ((wb.alloc (.cells #[.int .i64 0, .int .i64 0, .slice none 0 0, .slice none 0 0, .slice none 0 0] 28)).setRow wb.heap.size (csT sgb stb Ab mb pb Bb kb qb Cb nb rb)) := below_row (below1 _ _) (Nat.le_refl _) _
      have Kb : Blk ((wb.alloc (.cells #[.int .i64 0, .int .i64 0, .slice none 0 0, .slice none 0 0, .slice none 0 0] 28)).setRow wb.heap.size (csT sgb stb Ab mb pb Bb kb qb Cb nb rb)) wb.heap.size 28 (csT sgb stb Ab mb pb Bb kb qb Cb nb rb) := Nb.row _
      replace Kz := Kz.later hb3
      replace tz := tz.later hb3
      replace Ka := Ka.later hb3
      replace Pa := Pa.later hb3
      replace tb := tb.later hb3
      replace lw := Ge.trans lw hb3
      replace Pb := Pb.later hb3
      clear hb3 Nb
      generalize (wb.alloc (.cells #[.int .i64 0, .int .i64 0, .slice none 0 0, .slice none 0 0, .slice none 0 0] 28)).setRow wb.heap.size (csT sgb stb Ab mb pb Bb kb qb Cb nb rb) = yb at *
      generalize wb.heap.size = bb at *
      clear tb mpb
      have hs0 := lw.size
      obtain ⟨⟨sgd, std, od, ld, fd⟩, Hd⟩ : ∃ u, Hid (tabOf (dropT ⟨sg, st, o, l, f⟩ (nth o 0)) = u) := ⟨_, Lib.hid rfl⟩
      obtain ⟨erd, Yd⟩ : ∃ y, Hid (errOf (dropT ⟨sg, st, o, l, f⟩ (nth o 0)) 1 = y) := ⟨_, Lib.hid rfl⟩
      have hld := drop_len (x := nth o 0) HK.out
      rw [Hd.out] at hld
      simp only at hld
      obtain ⟨gz, oz, eAz, hgz, hcz⟩ := tz.a.cells (by omega)
      have hcz0 := hcz 0 (by omega)
      simp only [Nat.add_zero] at hcz0
      have hm0 : 0 < mz := by omega
      clear hcz
      go_wp2_with (first | (with_reducible refine load_t rfl (.tmp 2) rfl w.heap.size rfl Kz ?_) | (with_reducible refine load_t rfl (.tmp 6) rfl ba rfl Ka ?_) | (with_reducible refine load_t rfl (.tmp 8) rfl bb rfl Kb ?_))
      refine FreeC.wp_freeC (List.map CndP.p [.is (.agg #[.int .i64 sg, .int .i64 st, .slice Az mz pz, .slice Bz kz qz, .slice Cz nz rz]), .is (.pointer (some ⟨w.heap.size, 2, none⟩)), .is (.slice Az mz pz), .is (.pointer (some ⟨gz, oz, none⟩)), .is (.int .i64 (nth o 0)), .tup W4.heap.size erd, .tup W4.heap.size erd, .tab W4.heap.size, .is (.int .i64 erd), .any, .any, .is (.int .i64 erd)]) (DpC yb W4.heap.size) (by kernel_rfl) (by kernel_rfl) ⟨below_drawn _, fun e => by simp at e, fun e => by simp at e⟩ ?_ ?_
      · refine ⟨?_, ?_, ?_, ?_, ?_, ?_, ?_, ?_, ?_, ?_, ?_, ?_, trivial⟩
        · intro listed A0 W hA hno hr K' hK
          have hsl := hA.size
          simp at hsl
          have hts : A0.tmps.size = 156 := hA.slots.trans rfl
          have e2 : A0.tmps[2]?.getD undef = .pointer (some ⟨w.heap.size, 0, none⟩) := slot_is ((hA.kept 2 (Free.not_dst (by kernel_rfl))).trans rfl)
          have c0 : W.cell? ⟨w.heap.size, 0, none⟩ = some (.int .i64 sg) := (Kz.later hA.c.b).cell 0
          have c1 : W.cell? ⟨w.heap.size, 1, none⟩ = some (.int .i64 st) := (Kz.later hA.c.b).cell 1
          have c2 : W.cell? ⟨w.heap.size, 2, none⟩ = some (.slice Az mz pz) := (Kz.later hA.c.b).cell 2
          have c3 : W.cell? ⟨w.heap.size, 3, none⟩ = some (.slice Bz kz qz) := (Kz.later hA.c.b).cell 3
          have c4 : W.cell? ⟨w.heap.size, 4, none⟩ = some (.slice Cz nz rz) := (Kz.later hA.c.b).cell 4
          simp [go_sem, e2, c0, c1, c2, c3, c4]
          exact hK _ _ (hA.c.step 0 58 _ (by omega) (by omega) (by omega) (Below.refl _ _)) rfl (fun j u _ _ hu => CndP.keep (Below.refl _ _) hu)
        · intro listed A0 W hA hno hr K' hK
          have hsl := hA.size
          simp at hsl
          have hts : A0.tmps.size = 156 := hA.slots.trans rfl
          have e2 : A0.tmps[2]?.getD undef = .pointer (some ⟨w.heap.size, 0, none⟩) := slot_is ((hA.kept 2 (Free.not_dst (by kernel_rfl))).trans rfl)
          simp [go_sem, e2]
          exact hK _ _ (hA.c.step 1 59 _ (by omega) (by omega) (by omega) (Below.refl _ _)) rfl (fun j u _ _ hu => CndP.keep (Below.refl _ _) hu)
        · intro listed A0 W hA hno hr K' hK
          have hsl := hA.size
          simp at hsl
          have hts : A0.tmps.size = 156 := hA.slots.trans rfl
          have e59 : A0.tmps[59]?.getD undef = .pointer (some ⟨w.heap.size, 2, none⟩) := slot_is (hA.val 1 _ rfl (hr ⟨1, .data⟩ (by simp) rfl))
          have c2 : W.cell? ⟨w.heap.size, 2, none⟩ = some (.slice Az mz pz) := (Kz.later hA.c.b).cell 2
          simp [go_sem, e59, c2]
          exact hK _ _ (hA.c.step 2 60 _ (by omega) (by omega) (by omega) (Below.refl _ _)) rfl (fun j u _ _ hu => CndP.keep (Below.refl _ _) hu)
        · intro listed A0 W hA hno hr K' hK
          have hsl := hA.size
          simp at hsl
          have hts : A0.tmps.size = 156 := hA.slots.trans rfl
          have e60 : A0.tmps[60]?.getD undef = .slice Az mz pz := slot_is (hA.val 2 _ rfl (hr ⟨2, .data⟩ (by simp) rfl))
          rw [eAz] at e60
          simp [go_sem, e60, hm0]
          exact hK _ _ (hA.c.step 3 61 _ (by omega) (by omega) (by omega) (Below.refl _ _)) rfl (fun j u _ _ hu => CndP.keep (Below.refl _ _) hu)
        · intro listed A0 W hA hno hr K' hK
          have hsl := hA.size
          simp at hsl
          have hts : A0.tmps.size = 156 := hA.slots.trans rfl
          have e61 : A0.tmps[61]?.getD undef = .pointer (some ⟨gz, oz, none⟩) := slot_is (hA.val 3 _ rfl (hr ⟨3, .data⟩ (by simp) rfl))
          have c0 : W.cell? ⟨gz, oz, none⟩ = some (.int .i64 (nth o 0)) := (hA.c.b.cell (p := ⟨gz, oz, none⟩) hgz).trans hcz0
          simp [go_sem, e61, c0]
          exact hK _ _ (hA.c.step 4 62 _ (by omega) (by omega) (by omega) (Below.refl _ _)) rfl (fun j u _ _ hu => CndP.keep (Below.refl _ _) hu)
        · intro listed A0 W hA hno hr K' hK
          have hsl := hA.size
          simp at hsl
          have hts : A0.tmps.size = 156 := hA.slots.trans rfl
          have e58 : A0.tmps[58]?.getD undef = .agg #[.int .i64 sg, .int .i64 st, .slice Az mz pz, .slice Bz kz qz, .slice Cz nz rz] := slot_is (hA.val 0 _ rfl (hr ⟨0, .data⟩ (by simp) rfl))
          have e62 : A0.tmps[62]?.getD undef = .int .i64 (nth o 0) := slot_is (hA.val 4 _ rfl (hr ⟨4, .data⟩ (by simp) rfl))
          simp [go_sem, e58, e62]
          refine (resv (sg := sgd) (st := std) (o := od) (l := ld) (f' := fd) (y' := erd) (drop_any sg st Az mz pz Bz kz qz Cz nz rz o l f (nth o 0) W (tz.later hA.c.b) HK.out) Hd.out Yd.out).mono ?_
          rintro e' w' ⟨Ad, md, pd, Bd, kd, qd, Cd, nd, rd, rfl, td, _, frd, hb⟩
          have hs1 : W4.heap.size ≤ W.heap.size := Nat.le_trans hs0 hA.c.b.size
          exact hK _ _ (hA.c.step 5 63 _ (by omega) (by omega) (by omega) hb) ⟨_, rfl, ⟨sgd, std, Ad, md, pd, Bd, kd, qd, Cd, nd, rd, rfl, ⟨by rw [td.a.len]; exact hld.1, by rw [td.b.len]; exact hld.2.1, by rw [td.c.len]; exact hld.2.2⟩, Wr.of frd.1 hs1, Wr.of frd.2.1 hs1, Wr.of frd.2.2 hs1⟩⟩ (fun j u _ _ hu => CndP.keep hb hu)
        · intro listed A0 W hA hno hr K' hK
          have hsl := hA.size
          simp at hsl
          have hts : A0.tmps.size = 156 := hA.slots.trans rfl
          obtain ⟨x, e63, hx⟩ := slot_tup (hA.val 5 _ rfl (hr ⟨5, .data⟩ (by simp) rfl))
          simp [go_sem, e63]
          exact hK _ _ (hA.c.step 6 57 _ (by omega) (by omega) (by omega) (Below.refl _ _)) ⟨x, rfl, hx⟩ (fun j u _ _ hu => CndP.keep (Below.refl _ _) hu)
        · intro listed A0 W hA hno hr K' hK
          have hsl := hA.size
          simp at hsl
          have hts : A0.tmps.size = 156 := hA.slots.trans rfl
          obtain ⟨x, e57, hx⟩ := slot_tup (hA.val 6 _ rfl (hr ⟨6, .data⟩ (by simp) rfl))
          simp [go_sem, e57]
          exact hK _ _ (hA.c.step 7 64 _ (by omega) (by omega) (by omega) (Below.refl _ _)) hx (fun j u _ _ hu => CndP.keep (Below.refl _ _) hu)
        · intro listed A0 W hA hno hr K' hK
          have hsl := hA.size
          simp at hsl
          have hts : A0.tmps.size = 156 := hA.slots.trans rfl
          obtain ⟨x, e57, hx⟩ := slot_tup (hA.val 6 _ rfl (hr ⟨6, .data⟩ (by simp) rfl))
          simp [go_sem, e57]
          exact hK _ _ (hA.c.step 8 65 _ (by omega) (by omega) (by omega) (Below.refl _ _)) rfl (fun j u _ _ hu => CndP.keep (Below.refl _ _) hu)
        · intro listed A0 W hA hno hr K' hK
          have hsl := hA.size
          simp at hsl
          have hts : A0.tmps.size = 156 := hA.slots.trans rfl
          simp [go_sem, hv]
          exact hK _ _ (hA.c.alloc (by omega) (by omega) hno _ rfl) trivial (fun j u _ _ hu => CndP.keep (below1 _ _) hu)
        · intro listed A0 W hA hno hr K' hK
          have hsl := hA.size
          simp at hsl
          have hts : A0.tmps.size = 156 := hA.slots.trans rfl
          have hx := hA.val 7 _ rfl (hr ⟨7, .data⟩ (by simp) rfl)
          have hx' : PRv W4.heap.size (A0.tmps.getD 64 undef) W := hx
          obtain ⟨sg1, st1, A1, m1, p1, B1, k1, q1, C1, n1, r1, e64, _⟩ := hx
          have e64' : A0.tmps.getD 64 undef = .agg (csT sg1 st1 A1 m1 p1 B1 k1 q1 C1 n1 r1) := e64
          rw [e64'] at hx'
          obtain ⟨b, vs, e10, hbb, hvs, hB, _⟩ := hA.c.blk (hr ⟨9, .data⟩ (by simp) rfl)
          refine wp_store_row _ (.tmp 10) (.tmp 64) rfl b (csT sg1 st1 A1 m1 p1 B1 k1 q1 C1 n1 r1) e10 e64 _ _ hB info_t hvs (csT_one _ _ _ _ _ _ _ _ _ _ _) ?_
          exact hK _ _ (hA.c.store (by omega) (hr ⟨9, .data⟩ (by simp) rfl) e10 hB hvs rfl hbb hx') trivial (fun j u _ _ hu => CndP.lift (fun c => c.row hB (show (csT sg1 st1 A1 m1 p1 B1 k1 q1 C1 n1 r1).size = vs.size from hvs.symm)) hu)
        · intro listed A0 W hA hno hr K' hK
          have hsl := hA.size
          simp at hsl
          have hts : A0.tmps.size = 156 := hA.slots.trans rfl
          have e65 : A0.tmps[65]?.getD undef = .int .i64 erd := slot_is (hA.val 8 _ rfl (hr ⟨8, .data⟩ (by simp) rfl))
          simp [go_sem, e65]
          exact hK _ _ (hA.c.step 11 11 _ (by omega) (by omega) (by omega) (Below.refl _ _)) rfl (fun j u _ _ hu => CndP.keep (Below.refl _ _) hu)
      · intro A0 W7 hA
        have s11 : A0.tmps.getD 11 undef = .int .i64 erd := hA.val 11 _ rfl rfl
        have hde := hA.defers
        obtain ⟨y, hy, ee⟩ := fr7 rfl hA.slots (fun d hd => hA.kept d (kept_of (dsts := [57, 58, 59, 60, 61, 62, 63, 64, 65, 10, 11]) (by kernel_rfl) hd))
        obtain ⟨bd, vs, s10, hbd, -, Kd, hpd⟩ := hA.c.blk rfl
        obtain ⟨sgd', std', Ad, md, pd, Bd, kd, qd, Cd, nd, rd, ed, hld', wd1, wd2, wd3⟩ := hpd rfl
        obtain rfl : vs = csT sgd' std' Ad md pd Bd kd qd Cd nd rd := by injection ed
        have hb := hA.c.b
        clear hA hpd ed
        obtain ⟨tm, de⟩ := A0
        simp only at s10 s11 ee hde hy
        have t10 := (hy 10).symm.trans s10
        have t11 := (hy 11).symm.trans s11
        rw [t10, t11] at ee
        clear hy s10 s11 t10 t11 hcz0 hgz eAz tz
        subst ee hde
        replace Kz := Kz.later hb
        replace Ka := Ka.later hb
        replace Pa := Pa.later hb
        replace Kb := Kb.later hb
        replace Pb := Pb.later hb
        replace lw := Ge.trans lw hb
        clear hb
        go_wp2_with (first | (with_reducible refine load_t rfl (.tmp 6) rfl ba rfl Ka ?_) | (with_reducible refine load_t rfl (.tmp 8) rfl bb rfl Kb ?_) | (with_reducible refine load_t rfl (.tmp 10) rfl bd rfl Kd ?_))
        have PA := Pa.parts
        have PB := Pb.parts
        have NL : Blk (W7.alloc (.cells #[.int .i64 sga, .int .i64 sta, .slice Aa ma pa, .slice Ba ka qa, .slice Ca na ra, .int .i64 sgb, .int .i64 stb, .slice Ab mb pb, .slice Bb kb qb, .slice Cb nb rb, .int .i64 sgd', .int .i64 std', .slice Ad md pd, .slice Bd kd qd, .slice Cd nd rd] 28)) W7.heap.size 28 #[.int .i64 sga, .int .i64 sta, .slice Aa ma pa, .slice Ba ka qa, .slice Ca na ra, .int .i64 sgb, .int .i64 stb, .slice Ab mb pb, .slice Bb kb qb, .slice Cb nb rb, .int .i64 sgd', .int .i64 std', .slice Ad md pd, .slice Bd kd qd, .slice Cd nd rd] := Blk.new _ _ _
        have hbL := below1 W7 (.cells #[.int .i64 sga, .int .i64 sta, .slice Aa ma pa, .slice Ba ka qa, .slice Ca na ra, .int .i64 sgb, .int .i64 stb, .slice Ab mb pb, .slice Bb kb qb, .slice Cb nb rb, .int .i64 sgd', .int .i64 std', .slice Ad md pd, .slice Bd kd qd, .slice Cd nd rd] 28)
        obtain ⟨AA, AA0, AA1, AA2⟩ := by3 Aa Ab Ad
        obtain ⟨MM, MM0, MM1, MM2⟩ := by3 ma mb md
        obtain ⟨PP, PP0, PP1, PP2⟩ := by3 pa pb pd
        obtain ⟨BF, BF0, BF1, BF2⟩ := by3 Ba Bb Bd
        obtain ⟨KK, KK0, KK1, KK2⟩ := by3 ka kb kd
        obtain ⟨QQ, QQ0, QQ1, QQ2⟩ := by3 qa qb qd
        obtain ⟨CF, CF0, CF1, CF2⟩ := by3 Ca Cb Cd
        obtain ⟨NN, NN0, NN1, NN2⟩ := by3 na nb nd
        obtain ⟨RR, RR0, RR1, RR2⟩ := by3 ra rb rd
        have I0 : OwI W4 W4.heap.size W7.heap.size AA MM PP BF KK QQ CF NN RR (W7.alloc (.cells #[.int .i64 sga, .int .i64 sta, .slice Aa ma pa, .slice Ba ka qa, .slice Ca na ra, .int .i64 sgb, .int .i64 stb, .slice Ab mb pb, .slice Bb kb qb, .slice Cb nb rb, .int .i64 sgd', .int .i64 std', .slice Ad md pd, .slice Bd kd qd, .slice Cd nd rd] 28)) := by
          refine ⟨Ge.trans lw hbL, fun i hi => ?_, fun i hi => ?_, fun i hi => ?_⟩
          · rcases (by omega : i = 0 ∨ i = 1 ∨ i = 2) with rfl | rfl | rfl
            · rw [AA0, MM0, PP0, BF0, KK0, QQ0, CF0, NN0, RR0]; exact ⟨NL.cell 2, NL.cell 3, NL.cell 4⟩
            · rw [AA1, MM1, PP1, BF1, KK1, QQ1, CF1, NN1, RR1]; exact ⟨NL.cell 7, NL.cell 8, NL.cell 9⟩
            · rw [AA2, MM2, PP2, BF2, KK2, QQ2, CF2, NN2, RR2]; exact ⟨NL.cell 12, NL.cell 13, NL.cell 14⟩
          · rcases (by omega : i = 0 ∨ i = 1 ∨ i = 2) with rfl | rfl | rfl
            · rw [MM0, KK0, NN0]; exact PA.1
            · rw [MM1, KK1, NN1]; exact PB.1
            · rw [MM2, KK2, NN2]; exact hld'
          · rcases (by omega : i = 0 ∨ i = 1 ∨ i = 2) with rfl | rfl | rfl
            · rw [AA0, MM0, BF0, KK0, CF0, NN0]; exact ⟨PA.2.1.later (Nat.le_refl _) hbL, PA.2.2.1.later (Nat.le_refl _) hbL, PA.2.2.2.later (Nat.le_refl _) hbL⟩
            · rw [AA1, MM1, BF1, KK1, CF1, NN1]; exact ⟨PB.2.1.later (Nat.le_refl _) hbL, PB.2.2.1.later (Nat.le_refl _) hbL, PB.2.2.2.later (Nat.le_refl _) hbL⟩
            · rw [AA2, MM2, BF2, KK2, CF2, NN2]; exact ⟨wd1.later (Nat.le_refl _) hbL, wd2.later (Nat.le_refl _) hbL, wd3.later (Nat.le_refl _) hbL⟩
        have HI0 := Lib.hid I0
        clear I0 NL hbL PA PB Pa Pb wd1 wd2 wd3 hld' lw Kz Ka Kb Kd AA0 AA1 AA2 MM0 MM1 MM2 PP0 PP1 PP2 BF0 BF1 BF2 KK0 KK1 KK2 QQ0 QQ1 QQ2 CF0 CF1 CF2 NN0 NN1 NN2 RR0 RR1 RR2 hs0 hbd hby
        generalize (W7.alloc (.cells #[.int .i64 sga, .int .i64 sta, .slice Aa ma pa, .slice Ba ka qa, .slice Ca na ra, .int .i64 sgb, .int .i64 stb, .slice Ab mb pb, .slice Bb kb qb, .slice Cb nb rb, .int .i64 sgd', .int .i64 std', .slice Ad md pd, .slice Bd kd qd, .slice Cd nd rd] 28)) = W8 at *
        generalize W7.heap.size = bL at *
        go_loopg [13] 3 (fun gk s13 wr => ∃ i : Nat, i ≤ 3 ∧ gk = 3 - i ∧ s13 = .int .i64 (i : Nat) ∧ Hid (OwI W4 W4.heap.size bL AA MM PP BF KK QQ CF NN RR wr))
        case atStart => exact ⟨0, by omega, rfl, rfl, HI0⟩
        case round =>
          obtain ⟨i, hi, hgk, rfl, HI⟩ := hrel
          have HG := Lib.hid hgk
          clear hgk HI0
          by_cases hlt : i < 3
          · have hlti : (i : Int) < 3 := by omega
            have hli := HI.out.l i hlt
            obtain ⟨m1, E1⟩ : ∃ x, Hid (MM i = x) := ⟨_, Lib.hid rfl⟩
            have hm1 : m1 ≤ 30 := by rw [← E1.out]; exact hli.1
            go_wp2_with fail
            go_loopg [14] m1 (fun gk2 s2 wr2 => ∃ k : Nat, k ≤ m1 ∧ gk2 = m1 - k ∧ s2 = .int .i64 (k : Nat) ∧ Hid (OwI W4 W4.heap.size bL AA MM PP BF KK QQ CF NN RR wr2))
            case atStart => exact ⟨0, by omega, rfl, rfl, HI⟩
            case round =>
              obtain ⟨k1, hk1, hgk2, rfl, I1⟩ := hrel
              have HG1 := Lib.hid hgk2
              clear hgk2 HI
              have x1 := (I1.out.x i hlt).1
              rw [E1.out] at x1
              obtain ⟨pp, Ep⟩ : ∃ x, Hid (PP i = x) := ⟨_, Lib.hid rfl⟩
              rw [Ep.out] at x1
              by_cases hlk1 : k1 < m1
              · have hik1 : (k1 : Int) < (m1 : Int) := by omega
                obtain ⟨g, q, eA, h1, h2, h3⟩ := (I1.out.r i hlt).1 (by rw [E1.out]; omega)
                obtain ⟨⟨v, hv9⟩, hf9⟩ := h3 k1 (by rw [E1.out]; exact hlk1)
                rw [eA] at x1
                have I9 : Hid (OwI W4 W4.heap.size bL AA MM PP BF KK QQ CF NN RR (wr.setCell ⟨g, q + k1, none⟩ (.int .i64 99))) := Lib.hid (I1.out.set h1 h2 _ _)
                clear h1 h2 h3 I1
                go_wp2_with fail
                go_roundg (m1 - (k1 + 1))
                case measure => have := HG1.out; omega
                case rel => exact ⟨k1 + 1, by omega, rfl, by go_num, I9⟩
              · have hik1 : ¬ (k1 : Int) < (m1 : Int) := by omega
                obtain ⟨aa, Ea⟩ : ∃ x, Hid (AA i = x) := ⟨_, Lib.hid rfl⟩
                rw [Ea.out] at x1
                obtain ⟨m2, E2⟩ : ∃ x, Hid (KK i = x) := ⟨_, Lib.hid rfl⟩
                have hm2 : m2 ≤ 30 := by rw [← E2.out]; exact hli.2.1
                go_wp2_with fail
                go_loopg [15] m2 (fun gk2 s2 wr2 => ∃ k : Nat, k ≤ m2 ∧ gk2 = m2 - k ∧ s2 = .int .i64 (k : Nat) ∧ Hid (OwI W4 W4.heap.size bL AA MM PP BF KK QQ CF NN RR wr2))
                case atStart => exact ⟨0, by omega, rfl, rfl, I1⟩
                case round =>
                  obtain ⟨k2, hk2, hgk2, rfl, I2⟩ := hrel
                  have HG2 := Lib.hid hgk2
                  clear hgk2 I1
                  have x2 := (I2.out.x i hlt).2.1
                  rw [E2.out] at x2
                  obtain ⟨pp, Ep⟩ : ∃ x, Hid (QQ i = x) := ⟨_, Lib.hid rfl⟩
                  rw [Ep.out] at x2
                  by_cases hlk2 : k2 < m2
                  · have hik2 : (k2 : Int) < (m2 : Int) := by omega
                    obtain ⟨g, q, eA, h1, h2, h3⟩ := (I2.out.r i hlt).2.1 (by rw [E2.out]; omega)
                    obtain ⟨⟨v, hv9⟩, hf9⟩ := h3 k2 (by rw [E2.out]; exact hlk2)
                    rw [eA] at x2
                    have I9 : Hid (OwI W4 W4.heap.size bL AA MM PP BF KK QQ CF NN RR (wr.setCell ⟨g, q + k2, none⟩ (.int .i64 99))) := Lib.hid (I2.out.set h1 h2 _ _)
                    clear h1 h2 h3 I2
                    go_wp2_with fail
                    go_roundg (m2 - (k2 + 1))
                    case measure => have := HG2.out; omega
                    case rel => exact ⟨k2 + 1, by omega, rfl, by go_num, I9⟩
                  · have hik2 : ¬ (k2 : Int) < (m2 : Int) := by omega
                    obtain ⟨aa, Ea⟩ : ∃ x, Hid (BF i = x) := ⟨_, Lib.hid rfl⟩
                    rw [Ea.out] at x2
                    obtain ⟨m3, E3⟩ : ∃ x, Hid (NN i = x) := ⟨_, Lib.hid rfl⟩
                    have hm3 : m3 ≤ 30 := by rw [← E3.out]; exact hli.2.2
                    go_wp2_with fail
                    go_loopg [16] m3 (fun gk2 s2 wr2 => ∃ k : Nat, k ≤ m3 ∧ gk2 = m3 - k ∧ s2 = .int .i64 (k : Nat) ∧ Hid (OwI W4 W4.heap.size bL AA MM PP BF KK QQ CF NN RR wr2))
                    case atStart => exact ⟨0, by omega, rfl, rfl, I2⟩
                    case round =>
                      obtain ⟨k3, hk3, hgk2, rfl, I3⟩ := hrel
                      have HG3 := Lib.hid hgk2
                      clear hgk2 I2
                      have x3 := (I3.out.x i hlt).2.2
                      rw [E3.out] at x3
                      obtain ⟨pp, Ep⟩ : ∃ x, Hid (RR i = x) := ⟨_, Lib.hid rfl⟩
                      rw [Ep.out] at x3
                      by_cases hlk3 : k3 < m3
                      · have hik3 : (k3 : Int) < (m3 : Int) := by omega
                        obtain ⟨g, q, eA, h1, h2, h3⟩ := (I3.out.r i hlt).2.2 (by rw [E3.out]; omega)
                        obtain ⟨⟨v, hv9⟩, hf9⟩ := h3 k3 (by rw [E3.out]; exact hlk3)
                        rw [eA] at x3
                        have I9 : Hid (OwI W4 W4.heap.size bL AA MM PP BF KK QQ CF NN RR (wr.setCell ⟨g, q + k3, none⟩ (.int .u64 99))) := Lib.hid (I3.out.set h1 h2 _ _)
                        clear h1 h2 h3 I3
                        go_wp2_with fail
                        go_roundg (m3 - (k3 + 1))
                        case measure => have := HG3.out; omega
                        case rel => exact ⟨k3 + 1, by omega, rfl, by go_num, I9⟩
                      · have hik3 : ¬ (k3 : Int) < (m3 : Int) := by omega
                        obtain ⟨aa, Ea⟩ : ∃ x, Hid (CF i = x) := ⟨_, Lib.hid rfl⟩
                        rw [Ea.out] at x3
                        go_wp2_with fail
                        go_roundg (3 - (i + 1))
                        case measure => have := HG.out; omega
                        case rel => exact ⟨i + 1, by omega, rfl, by go_num, I3⟩
          · obtain rfl : i = 3 := by omega
            obtain ⟨BB, Ky, ty, Kz, tz⟩ := HF.out
            have hb := HI.out.b
            have I : Its w [(w.heap.size, 28, csT sg st Az mz pz Bz kz qz Cz nz rz), (by_, 32, csT sg st Ay mz py By kz qy Cy nz ry)] [(.i64, Az, mz, o), (.i64, Bz, kz, l), (.u64, Cz, nz, f), (.i64, Ay, mz, o), (.i64, By, kz, l), (.u64, Cy, nz, f)] wr := ((((Its.nil BB).cons Ky).cons Kz).tcons ty).tcons tz |>.later hb
            have hea : era = 0 ∨ era = 10 := by have := err_two (rollT ⟨sg, st, o, l, f⟩ X) 10; rw [Ya.out] at this; exact this
            have heb : erb = 0 ∨ erb = 10 := by have := err_two (countT ⟨sg, st, o, l, f⟩) 10; rw [Yb.out] at this; exact this
            have hed : erd = 0 ∨ erd = 1 := by have := err_two (dropT ⟨sg, st, o, l, f⟩ (nth o 0)) 1; rw [Yd.out] at this; exact this
            have hne : Nonempty (In (Its w [(w.heap.size, 28, csT sg st Az mz pz Bz kz qz Cz nz rz), (by_, 32, csT sg st Ay mz py By kz qy Cy nz ry)] [(.i64, Az, mz, o), (.i64, Bz, kz, l), (.u64, Cz, nz, f), (.i64, Ay, mz, o), (.i64, By, kz, l), (.u64, Cy, nz, f)])) := ⟨⟨_, I⟩⟩
            have fz0 : ∀ j : In (Its w [(w.heap.size, 28, csT sg st Az mz pz Bz kz qz Cz nz rz), (by_, 32, csT sg st Ay mz py By kz qy Cy nz ry)] [(.i64, Az, mz, o), (.i64, Bz, kz, l), (.u64, Cz, nz, f), (.i64, Ay, mz, o), (.i64, By, kz, l), (.u64, Cy, nz, f)]), j.W.cell? ⟨w.heap.size, 0, none⟩ = some (.int .i64 sg) := fun j => (j.h.at_ 0 rfl).cell 0
            have fz1 : ∀ j : In (Its w [(w.heap.size, 28, csT sg st Az mz pz Bz kz qz Cz nz rz), (by_, 32, csT sg st Ay mz py By kz qy Cy nz ry)] [(.i64, Az, mz, o), (.i64, Bz, kz, l), (.u64, Cz, nz, f), (.i64, Ay, mz, o), (.i64, By, kz, l), (.u64, Cy, nz, f)]), j.W.cell? ⟨w.heap.size, 1, none⟩ = some (.int .i64 st) := fun j => (j.h.at_ 0 rfl).cell 1
            have fz2 : ∀ j : In (Its w [(w.heap.size, 28, csT sg st Az mz pz Bz kz qz Cz nz rz), (by_, 32, csT sg st Ay mz py By kz qy Cy nz ry)] [(.i64, Az, mz, o), (.i64, Bz, kz, l), (.u64, Cz, nz, f), (.i64, Ay, mz, o), (.i64, By, kz, l), (.u64, Cy, nz, f)]), j.W.cell? ⟨w.heap.size, 2, none⟩ = some (.slice Az mz pz) := fun j => (j.h.at_ 0 rfl).cell 2
            have fz3 : ∀ j : In (Its w [(w.heap.size, 28, csT sg st Az mz pz Bz kz qz Cz nz rz), (by_, 32, csT sg st Ay mz py By kz qy Cy nz ry)] [(.i64, Az, mz, o), (.i64, Bz, kz, l), (.u64, Cz, nz, f), (.i64, Ay, mz, o), (.i64, By, kz, l), (.u64, Cy, nz, f)]), j.W.cell? ⟨w.heap.size, 3, none⟩ = some (.slice Bz kz qz) := fun j => (j.h.at_ 0 rfl).cell 3
            have fz4 : ∀ j : In (Its w [(w.heap.size, 28, csT sg st Az mz pz Bz kz qz Cz nz rz), (by_, 32, csT sg st Ay mz py By kz qy Cy nz ry)] [(.i64, Az, mz, o), (.i64, Bz, kz, l), (.u64, Cz, nz, f), (.i64, Ay, mz, o), (.i64, By, kz, l), (.u64, Cy, nz, f)]), j.W.cell? ⟨w.heap.size, 4, none⟩ = some (.slice Cz nz rz) := fun j => (j.h.at_ 0 rfl).cell 4
            have fy0 : ∀ j : In (Its w [(w.heap.size, 28, csT sg st Az mz pz Bz kz qz Cz nz rz), (by_, 32, csT sg st Ay mz py By kz qy Cy nz ry)] [(.i64, Az, mz, o), (.i64, Bz, kz, l), (.u64, Cz, nz, f), (.i64, Ay, mz, o), (.i64, By, kz, l), (.u64, Cy, nz, f)]), j.W.cell? ⟨by_, 0, none⟩ = some (.int .i64 sg) := fun j => (j.h.at_ 1 rfl).cell 0
            have fy1 : ∀ j : In (Its w [(w.heap.size, 28, csT sg st Az mz pz Bz kz qz Cz nz rz), (by_, 32, csT sg st Ay mz py By kz qy Cy nz ry)] [(.i64, Az, mz, o), (.i64, Bz, kz, l), (.u64, Cz, nz, f), (.i64, Ay, mz, o), (.i64, By, kz, l), (.u64, Cy, nz, f)]), j.W.cell? ⟨by_, 1, none⟩ = some (.int .i64 st) := fun j => (j.h.at_ 1 rfl).cell 1
            have fy2 : ∀ j : In (Its w [(w.heap.size, 28, csT sg st Az mz pz Bz kz qz Cz nz rz), (by_, 32, csT sg st Ay mz py By kz qy Cy nz ry)] [(.i64, Az, mz, o), (.i64, Bz, kz, l), (.u64, Cz, nz, f), (.i64, Ay, mz, o), (.i64, By, kz, l), (.u64, Cy, nz, f)]), j.W.cell? ⟨by_, 2, none⟩ = some (.slice Ay mz py) := fun j => (j.h.at_ 1 rfl).cell 2
            have fy3 : ∀ j : In (Its w [(w.heap.size, 28, csT sg st Az mz pz Bz kz qz Cz nz rz), (by_, 32, csT sg st Ay mz py By kz qy Cy nz ry)] [(.i64, Az, mz, o), (.i64, Bz, kz, l), (.u64, Cz, nz, f), (.i64, Ay, mz, o), (.i64, By, kz, l), (.u64, Cy, nz, f)]), j.W.cell? ⟨by_, 3, none⟩ = some (.slice By kz qy) := fun j => (j.h.at_ 1 rfl).cell 3
            have fy4 : ∀ j : In (Its w [(w.heap.size, 28, csT sg st Az mz pz Bz kz qz Cz nz rz), (by_, 32, csT sg st Ay mz py By kz qy Cy nz ry)] [(.i64, Az, mz, o), (.i64, Bz, kz, l), (.u64, Cz, nz, f), (.i64, Ay, mz, o), (.i64, By, kz, l), (.u64, Cy, nz, f)]), j.W.cell? ⟨by_, 4, none⟩ = some (.slice Cy nz ry) := fun j => (j.h.at_ 1 rfl).cell 4
            have Q3 := Lib.hid (fun W (hi : Its w [(w.heap.size, 28, csT sg st Az mz pz Bz kz qz Cz nz rz), (by_, 32, csT sg st Ay mz py By kz qy Cy nz ry)] [(.i64, Az, mz, o), (.i64, Bz, kz, l), (.u64, Cz, nz, f), (.i64, Ay, mz, o), (.i64, By, kz, l), (.u64, Cy, nz, f)] W) => same_yes sg st Az mz pz Bz kz qz Cz nz rz Ay mz py By kz qy Cy nz ry o l f W (hi.tab 0 rfl rfl rfl) (hi.tab 3 rfl rfl rfl) hmz hkz hnz)
            have hI := Lib.hid I
            clear HF HI HG HK BB Ky ty Kz tz hb I Ha Hb Hd Ya Yb Yd
            rcases hea with rfl | rfl <;> rcases heb with rfl | rfl <;> rcases hed with rfl | rfl
            all_goals
              go_wp2_with fail
              refine region_class (Its w [(w.heap.size, 28, csT sg st Az mz pz Bz kz qz Cz nz rz), (by_, 32, csT sg st Ay mz py By kz qy Cy nz ry)] [(.i64, Az, mz, o), (.i64, Bz, kz, l), (.u64, Cz, nz, f), (.i64, Ay, mz, o), (.i64, By, kz, l), (.u64, Cy, nz, f)]) (by kernel_rfl) (by kernel_rfl) hI.out.drawn ?_
              repeat (go_big_quiet_step (first
                | (go_at_call 12; with_reducible exact class_call _ (fun hi => its_ge hi (ref_any sg st Az mz pz Bz kz qz Cz nz rz _)))
                | (go_at_call 11; with_reducible exact class_call _ (fun hi => its_ge hi (Q3.out _ hi)))
                | (go_at_call 25; with_reducible exact class_call _ (fun hi => its_ge hi (fixed_any _)))))
              refine wpQuiet_nil ?_
              rintro _ ⟨j, rfl⟩
              have hb9 := j.h.b
              go_wp2_with fail
              go_ret
              exact ⟨rfl, hb9⟩

set_option maxRecDepth 100000 in
theorem lifted (os : Os) (started : os.Started) (H : Type) (enc : TypeId × Value → H) :
    ReturnsInHanded {} Try.checked os 6 .any (Rows.tableOwnSpec.pre6 enc Try.prog Try.f6 Rows.tableOwnRow.domain false) (Rows.tableOwnSpec.post enc Try.prog Try.f6 false true false false) := by
  refine returnsInHanded_of_change (C := Try.checked) own started (by kernel_rfl) Try.func6
    (ChangeSpec.witness6 (enc := enc) (C := Try.checked) false ⟨#[], #[.agg #[.int .i64 0, .int .i64 0, .slice none 0 0, .slice none 0 0, .slice none 0 0], .int .u64 0], []⟩ 8 (by kernel_rfl) (by kernel_rfl) (by kernel_rfl) (by kernel_rfl)) ?_
  intro W base args ds gs before hval0 hW hcnd _
  have hval : ∀ (j : Nat) t v, Try.f6.params[j]? = some t → args[j]? = some v → Value.okWide Try.prog W .any base t v := hval0
  have hW' := hW
  obtain ⟨p, q, hA0, hV, rfl, hfz, hnd⟩ := hW
  have hA : DataW.TrodAll enc Try.prog W 0 (fun _ => true) true Try.f6.params.toList args.toList ds p := hA0
  rw [Try.params6] at hA hval
  obtain ⟨v0, vs0, d0, ds0, p0, q0, hargs, rfl, rfl, h0, r0⟩ := trodAll_cons hA
  obtain ⟨v1, vs1, d1, ds1, p1, q1, rfl, rfl, rfl, h1, r1⟩ := trodAll_cons r0
  obtain ⟨rfl, rfl, rfl⟩ := trodAll_nil r1
  obtain rfl : args = #[v0, v1] := by cases args; simp_all
  obtain ⟨rfl, rfl⟩ := trodVars_none hV
  obtain ⟨gs0, ts0, A0, m0, pa0, B0, k0, pb0, C0, n0, pc0, o0, l0, f0, rfl, ht0, hm0, hp0⟩ := open_tab (hval 0 28 v0 rfl rfl) h0
  obtain ⟨a1, rfl, rfl, rfl, w1⟩ := open_int Try.underlying23 (hval 1 23 v1 rfl rfl) h1
  clear hA0 hval0
  try simp only [List.append_nil] at hW'
  try simp only [List.nil_append] at hW'
  have hlt := fun x hx => hW'.lt x hx
  refine (walk gs0 ts0 A0 m0 pa0 B0 k0 pb0 C0 n0 pc0 o0 l0 f0 a1 W ht0 hm0 hp0 w1).mono fun e W' ⟨he, hg⟩ => ?_
  subst he
  refine ⟨_, rfl, post_mem hW' (fun _ _ _ => (trodAll_cons_mk (shut_bool Try.underlying4 _) trodAll_mk0)) (fun sp hsp => ?_) (fun _ => rfl) hg (ok_one (by kernel_rfl) rfl (okWide_bool_mk Try.underlying4 _))⟩
  have hall := (trodAll_cons_mk (arg_same (sp := sp) laid (by kernel_rfl) (of_decide_eq_true (by kernel_rfl)) h0 hg (by intro x hx; simp_all) hlt hsp) (trodAll_cons_mk (arg_same (sp := sp) laid (by kernel_rfl) (of_decide_eq_true (by kernel_rfl)) h1 hg (by intro x hx; simp_all) hlt hsp) trodAll_mk0))
  try simp only [List.append_nil] at hall
  try simp only [List.nil_append] at hall
  exact hall

theorem over : Rows.tableOwnRow.holds Try.pinned (OpenSpec.ofChange Rows.tableOwnSpec) :=
  OpenClaim.holds_of_wide 6 Try.f6 rfl rfl rfl rfl rfl rfl rfl ⟨rfl, rfl, rfl, rfl, rfl⟩ rfl rfl rfl rfl rfl (by kernel_rfl) Try.func6 (by kernel_rfl)
    (of_decide_eq_true (by kernel_rfl)) (by unfold Func.isWrapper; first | (rw [if_pos (by decide +kernel)]; kernel_rfl) | (rw [if_neg (by decide +kernel)]; exact ⟨rfl, rfl⟩))
    (fun os started H enc _ => lifted os started H enc)

theorem proved : Rows.TableOwnSaid := over
#print axioms proved
end Go.Proofs.Ytpgbbbgblgkokaa.tableOwn
