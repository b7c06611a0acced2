/- lodgerlaw05.Do: one call, on both disks: they answer alike, and are of one state behind it. -/
import Derived.Test.YtoblkjahohlflaaDiskT
import Derived.Test.YtoblkjahohlflaaClass
import Derived.Deep.DeepCutAuto
namespace Go.Proofs.Ytoblkjahohlflaa
open Go.RowKit Go.MapKept Go.Lib
set_option linter.unusedVariables false

theorem list_succ {α : Type} {l : List α} {n : Nat} (h : l.length = n + 1) : ∃ x r, l = x :: r ∧ r.length = n := by
  cases l with
  | nil => simp at h
  | cons x r => exact ⟨x, r, rfl, by simpa using h⟩
theorem arr129 {α : Type} {cs : Array α} (h : cs.size = 129) : ∃ y0 y1 y2 y3 y4 y5 y6 y7 y8 y9 y10 y11 y12 y13 y14 y15 y16 y17 y18 y19 y20 y21 y22 y23 y24 y25 y26 y27 y28 y29 y30 y31 y32 y33 y34 y35 y36 y37 y38 y39 y40 y41 y42 y43 y44 y45 y46 y47 y48 y49 y50 y51 y52 y53 y54 y55 y56 y57 y58 y59 y60 y61 y62 y63 y64 y65 y66 y67 y68 y69 y70 y71 y72 y73 y74 y75 y76 y77 y78 y79 y80 y81 y82 y83 y84 y85 y86 y87 y88 y89 y90 y91 y92 y93 y94 y95 y96 y97 y98 y99 y100 y101 y102 y103 y104 y105 y106 y107 y108 y109 y110 y111 y112 y113 y114 y115 y116 y117 y118 y119 y120 y121 y122 y123 y124 y125 y126 y127 y128, cs = #[y0, y1, y2, y3, y4, y5, y6, y7, y8, y9, y10, y11, y12, y13, y14, y15, y16, y17, y18, y19, y20, y21, y22, y23, y24, y25, y26, y27, y28, y29, y30, y31, y32, y33, y34, y35, y36, y37, y38, y39, y40, y41, y42, y43, y44, y45, y46, y47, y48, y49, y50, y51, y52, y53, y54, y55, y56, y57, y58, y59, y60, y61, y62, y63, y64, y65, y66, y67, y68, y69, y70, y71, y72, y73, y74, y75, y76, y77, y78, y79, y80, y81, y82, y83, y84, y85, y86, y87, y88, y89, y90, y91, y92, y93, y94, y95, y96, y97, y98, y99, y100, y101, y102, y103, y104, y105, y106, y107, y108, y109, y110, y111, y112, y113, y114, y115, y116, y117, y118, y119, y120, y121, y122, y123, y124, y125, y126, y127, y128] := by
  obtain ⟨l⟩ := cs
  have h0 : l.length = 129 := h
  clear h
  obtain ⟨y0, l1, q0, h1⟩ := list_succ h0
  obtain ⟨y1, l2, q1, h2⟩ := list_succ h1
  obtain ⟨y2, l3, q2, h3⟩ := list_succ h2
  obtain ⟨y3, l4, q3, h4⟩ := list_succ h3
  obtain ⟨y4, l5, q4, h5⟩ := list_succ h4
  obtain ⟨y5, l6, q5, h6⟩ := list_succ h5
  obtain ⟨y6, l7, q6, h7⟩ := list_succ h6
  obtain ⟨y7, l8, q7, h8⟩ := list_succ h7
  obtain ⟨y8, l9, q8, h9⟩ := list_succ h8
  obtain ⟨y9, l10, q9, h10⟩ := list_succ h9
  obtain ⟨y10, l11, q10, h11⟩ := list_succ h10
  obtain ⟨y11, l12, q11, h12⟩ := list_succ h11
  obtain ⟨y12, l13, q12, h13⟩ := list_succ h12
  obtain ⟨y13, l14, q13, h14⟩ := list_succ h13
  obtain ⟨y14, l15, q14, h15⟩ := list_succ h14
  obtain ⟨y15, l16, q15, h16⟩ := list_succ h15
  obtain ⟨y16, l17, q16, h17⟩ := list_succ h16
  obtain ⟨y17, l18, q17, h18⟩ := list_succ h17
  obtain ⟨y18, l19, q18, h19⟩ := list_succ h18
  obtain ⟨y19, l20, q19, h20⟩ := list_succ h19
  obtain ⟨y20, l21, q20, h21⟩ := list_succ h20
  obtain ⟨y21, l22, q21, h22⟩ := list_succ h21
  obtain ⟨y22, l23, q22, h23⟩ := list_succ h22
  obtain ⟨y23, l24, q23, h24⟩ := list_succ h23
  obtain ⟨y24, l25, q24, h25⟩ := list_succ h24
  obtain ⟨y25, l26, q25, h26⟩ := list_succ h25
  obtain ⟨y26, l27, q26, h27⟩ := list_succ h26
  obtain ⟨y27, l28, q27, h28⟩ := list_succ h27
  obtain ⟨y28, l29, q28, h29⟩ := list_succ h28
  obtain ⟨y29, l30, q29, h30⟩ := list_succ h29
  obtain ⟨y30, l31, q30, h31⟩ := list_succ h30
  obtain ⟨y31, l32, q31, h32⟩ := list_succ h31
  obtain ⟨y32, l33, q32, h33⟩ := list_succ h32
  obtain ⟨y33, l34, q33, h34⟩ := list_succ h33
  obtain ⟨y34, l35, q34, h35⟩ := list_succ h34
  obtain ⟨y35, l36, q35, h36⟩ := list_succ h35
  obtain ⟨y36, l37, q36, h37⟩ := list_succ h36
  obtain ⟨y37, l38, q37, h38⟩ := list_succ h37
  obtain ⟨y38, l39, q38, h39⟩ := list_succ h38
  obtain ⟨y39, l40, q39, h40⟩ := list_succ h39
  obtain ⟨y40, l41, q40, h41⟩ := list_succ h40
  obtain ⟨y41, l42, q41, h42⟩ := list_succ h41
  obtain ⟨y42, l43, q42, h43⟩ := list_succ h42
  obtain ⟨y43, l44, q43, h44⟩ := list_succ h43
  obtain ⟨y44, l45, q44, h45⟩ := list_succ h44
  obtain ⟨y45, l46, q45, h46⟩ := list_succ h45
  obtain ⟨y46, l47, q46, h47⟩ := list_succ h46
  obtain ⟨y47, l48, q47, h48⟩ := list_succ h47
  obtain ⟨y48, l49, q48, h49⟩ := list_succ h48
  obtain ⟨y49, l50, q49, h50⟩ := list_succ h49
  obtain ⟨y50, l51, q50, h51⟩ := list_succ h50
  obtain ⟨y51, l52, q51, h52⟩ := list_succ h51
  obtain ⟨y52, l53, q52, h53⟩ := list_succ h52
  obtain ⟨y53, l54, q53, h54⟩ := list_succ h53
  obtain ⟨y54, l55, q54, h55⟩ := list_succ h54
  obtain ⟨y55, l56, q55, h56⟩ := list_succ h55
  obtain ⟨y56, l57, q56, h57⟩ := list_succ h56
  obtain ⟨y57, l58, q57, h58⟩ := list_succ h57
  obtain ⟨y58, l59, q58, h59⟩ := list_succ h58
  obtain ⟨y59, l60, q59, h60⟩ := list_succ h59
  obtain ⟨y60, l61, q60, h61⟩ := list_succ h60
  obtain ⟨y61, l62, q61, h62⟩ := list_succ h61
  obtain ⟨y62, l63, q62, h63⟩ := list_succ h62
  obtain ⟨y63, l64, q63, h64⟩ := list_succ h63
  obtain ⟨y64, l65, q64, h65⟩ := list_succ h64
  obtain ⟨y65, l66, q65, h66⟩ := list_succ h65
  obtain ⟨y66, l67, q66, h67⟩ := list_succ h66
  obtain ⟨y67, l68, q67, h68⟩ := list_succ h67
  obtain ⟨y68, l69, q68, h69⟩ := list_succ h68
  obtain ⟨y69, l70, q69, h70⟩ := list_succ h69
  obtain ⟨y70, l71, q70, h71⟩ := list_succ h70
  obtain ⟨y71, l72, q71, h72⟩ := list_succ h71
  obtain ⟨y72, l73, q72, h73⟩ := list_succ h72
  obtain ⟨y73, l74, q73, h74⟩ := list_succ h73
  obtain ⟨y74, l75, q74, h75⟩ := list_succ h74
  obtain ⟨y75, l76, q75, h76⟩ := list_succ h75
  obtain ⟨y76, l77, q76, h77⟩ := list_succ h76
  obtain ⟨y77, l78, q77, h78⟩ := list_succ h77
  obtain ⟨y78, l79, q78, h79⟩ := list_succ h78
  obtain ⟨y79, l80, q79, h80⟩ := list_succ h79
  obtain ⟨y80, l81, q80, h81⟩ := list_succ h80
  obtain ⟨y81, l82, q81, h82⟩ := list_succ h81
  obtain ⟨y82, l83, q82, h83⟩ := list_succ h82
  obtain ⟨y83, l84, q83, h84⟩ := list_succ h83
  obtain ⟨y84, l85, q84, h85⟩ := list_succ h84
  obtain ⟨y85, l86, q85, h86⟩ := list_succ h85
  obtain ⟨y86, l87, q86, h87⟩ := list_succ h86
  obtain ⟨y87, l88, q87, h88⟩ := list_succ h87
  obtain ⟨y88, l89, q88, h89⟩ := list_succ h88
  obtain ⟨y89, l90, q89, h90⟩ := list_succ h89
  obtain ⟨y90, l91, q90, h91⟩ := list_succ h90
  obtain ⟨y91, l92, q91, h92⟩ := list_succ h91
  obtain ⟨y92, l93, q92, h93⟩ := list_succ h92
  obtain ⟨y93, l94, q93, h94⟩ := list_succ h93
  obtain ⟨y94, l95, q94, h95⟩ := list_succ h94
  obtain ⟨y95, l96, q95, h96⟩ := list_succ h95
  obtain ⟨y96, l97, q96, h97⟩ := list_succ h96
  obtain ⟨y97, l98, q97, h98⟩ := list_succ h97
  obtain ⟨y98, l99, q98, h99⟩ := list_succ h98
  obtain ⟨y99, l100, q99, h100⟩ := list_succ h99
  obtain ⟨y100, l101, q100, h101⟩ := list_succ h100
  obtain ⟨y101, l102, q101, h102⟩ := list_succ h101
  obtain ⟨y102, l103, q102, h103⟩ := list_succ h102
  obtain ⟨y103, l104, q103, h104⟩ := list_succ h103
  obtain ⟨y104, l105, q104, h105⟩ := list_succ h104
  obtain ⟨y105, l106, q105, h106⟩ := list_succ h105
  obtain ⟨y106, l107, q106, h107⟩ := list_succ h106
  obtain ⟨y107, l108, q107, h108⟩ := list_succ h107
  obtain ⟨y108, l109, q108, h109⟩ := list_succ h108
  obtain ⟨y109, l110, q109, h110⟩ := list_succ h109
  obtain ⟨y110, l111, q110, h111⟩ := list_succ h110
  obtain ⟨y111, l112, q111, h112⟩ := list_succ h111
  obtain ⟨y112, l113, q112, h113⟩ := list_succ h112
  obtain ⟨y113, l114, q113, h114⟩ := list_succ h113
  obtain ⟨y114, l115, q114, h115⟩ := list_succ h114
  obtain ⟨y115, l116, q115, h116⟩ := list_succ h115
  obtain ⟨y116, l117, q116, h117⟩ := list_succ h116
  obtain ⟨y117, l118, q117, h118⟩ := list_succ h117
  obtain ⟨y118, l119, q118, h119⟩ := list_succ h118
  obtain ⟨y119, l120, q119, h120⟩ := list_succ h119
  obtain ⟨y120, l121, q120, h121⟩ := list_succ h120
  obtain ⟨y121, l122, q121, h122⟩ := list_succ h121
  obtain ⟨y122, l123, q122, h123⟩ := list_succ h122
  obtain ⟨y123, l124, q123, h124⟩ := list_succ h123
  obtain ⟨y124, l125, q124, h125⟩ := list_succ h124
  obtain ⟨y125, l126, q125, h126⟩ := list_succ h125
  obtain ⟨y126, l127, q126, h127⟩ := list_succ h126
  obtain ⟨y127, l128, q127, h128⟩ := list_succ h127
  obtain ⟨y128, l129, q128, h129⟩ := list_succ h128
  have q129 := List.length_eq_zero_iff.1 h129
  subst q129 q128 q127 q126 q125 q124 q123 q122 q121 q120 q119 q118 q117 q116 q115 q114 q113 q112 q111 q110 q109 q108 q107 q106 q105 q104 q103 q102 q101 q100 q99 q98 q97 q96 q95 q94 q93 q92 q91 q90 q89 q88 q87 q86 q85 q84 q83 q82 q81 q80 q79 q78 q77 q76 q75 q74 q73 q72 q71 q70 q69 q68 q67 q66 q65 q64 q63 q62 q61 q60 q59 q58 q57 q56 q55 q54 q53 q52 q51 q50 q49 q48 q47 q46 q45 q44 q43 q42 q41 q40 q39 q38 q37 q36 q35 q34 q33 q32 q31 q30 q29 q28 q27 q26 q25 q24 q23 q22 q21 q20 q19 q18 q17 q16 q15 q14 q13 q12 q11 q10 q9 q8 q7 q6 q5 q4 q3 q2 q1 q0
  exact ⟨y0, y1, y2, y3, y4, y5, y6, y7, y8, y9, y10, y11, y12, y13, y14, y15, y16, y17, y18, y19, y20, y21, y22, y23, y24, y25, y26, y27, y28, y29, y30, y31, y32, y33, y34, y35, y36, y37, y38, y39, y40, y41, y42, y43, y44, y45, y46, y47, y48, y49, y50, y51, y52, y53, y54, y55, y56, y57, y58, y59, y60, y61, y62, y63, y64, y65, y66, y67, y68, y69, y70, y71, y72, y73, y74, y75, y76, y77, y78, y79, y80, y81, y82, y83, y84, y85, y86, y87, y88, y89, y90, y91, y92, y93, y94, y95, y96, y97, y98, y99, y100, y101, y102, y103, y104, y105, y106, y107, y108, y109, y110, y111, y112, y113, y114, y115, y116, y117, y118, y119, y120, y121, y122, y123, y124, y125, y126, y127, y128, rfl⟩

theorem getD_no {listed : Array Bool} {i : Nat} (h : listed.getD i true = false) : listed.getD i false = false := by
  simp only [Array.getD_eq_getD_getElem?] at *
  cases e : listed[i]? with
  | none => rw [e] at h; simp at h
  | some b => rw [e] at h; simpa using h

/-- Both disks, before and behind their turns. -/
def turned (L : List Item) (j k d r : Nat) (s' : St) (b1 b2 : Bool) : List Item :=
  let M := if b1 then L.set j (diskI d s') else L
  if b2 then M.set k (refI r s') else M

structure DoC (i5 i11 : Nat) (W0 : World) (L : List Item) (j k n d r bx : Nat) (s s' : St) (t : TypeId) (cs : Array Value) (listed : Array Bool) (a : Act) (W : World) : Prop where
  sep : Sep W0 W (turned L j k d r s' (listed.getD i5 false) (listed.getD i11 false))
  hj : L[j]? = some (diskI d s)
  hk : L[k]? = some (refI r s)
  hn : L[n]? = some (cellsI bx t cs)
  jk : j ≠ k
  jn : j ≠ n
  kn : k ≠ n
  sz : i5 < listed.size ∧ i11 < listed.size
section
variable {i5 i11 : Nat} {W0 : World} {L : List Item} {j k n d r bx : Nat} {s s' : St} {t : TypeId} {cs : Array Value} {listed : Array Bool} {a a' : Act} {W W' : World}
theorem DoC.keep {i : Nat} (h : DoC i5 i11 W0 L j k n d r bx s s' t cs listed a W) (h5 : i ≠ i5) (h11 : i ≠ i11) : DoC i5 i11 W0 L j k n d r bx s s' t cs (listed.setIfInBounds i true) a' W :=
  ⟨by rw [getD_set_ne false h5, getD_set_ne false h11]; exact h.sep, h.hj, h.hk, h.hn, h.jk, h.jn, h.kn, by simpa using h.sz⟩
theorem turned_n (h : DoC i5 i11 W0 L j k n d r bx s s' t cs listed a W) (b1 b2 : Bool) : (turned L j k d r s' b1 b2)[n]? = some (cellsI bx t cs) := by
  have hj := h.jn
  have hk := h.kn
  unfold turned
  cases b1 <;> cases b2 <;> simp [hj, hk, h.hn]
theorem DoC.blk (h : DoC i5 i11 W0 L j k n d r bx s s' t cs listed a W) : Blk W bx t cs := cells_s h.sep (turned_n h _ _)
theorem DoC.step5 {f : FuncId} {args : Array Value} {v : Value} (h : DoC i5 i11 W0 L j k n d r bx s s' t cs listed a W) (hno : listed.getD i5 false = false) (hT : DiskTurns f args s s' v) (hne : i5 ≠ i11 := by decide) :
    Calls Try.prog f (#[.pointer (some ⟨d, 0, none⟩)] ++ args) W fun e w' => e = .returned v ∧ DoC i5 i11 W0 L j k n d r bx s s' t cs (listed.setIfInBounds i5 true) a' w' := by
  have hs := h.sep
  rw [hno] at hs
  have hj : (turned L j k d r s' false (listed.getD i11 false))[j]? = some (diskI d s) := by
    unfold turned
    have := h.jk
    cases listed.getD i11 false <;> simp [Ne.symm this, h.hj]
  refine (hT W0 W _ j d hs hj).mono fun e w' ⟨he, hw⟩ => ⟨he, ⟨?_, h.hj, h.hk, h.hn, h.jk, h.jn, h.kn, by simpa using h.sz⟩⟩
  have e1 : (listed.setIfInBounds i5 true).getD i5 false = true := by simp [h.sz.1]
  rw [e1, getD_set_ne false hne]
  have e2 : (turned L j k d r s' false (listed.getD i11 false)).set j (diskI d s') = turned L j k d r s' true (listed.getD i11 false) := by
    unfold turned
    cases listed.getD i11 false
    · simp
    · simp only [if_true, if_false, Bool.false_eq_true]; exact List.set_comm _ _ (Ne.symm h.jk)
  rw [← e2]; exact hw
theorem DoC.step11 {f : FuncId} {args : Array Value} {v : Value} (h : DoC i5 i11 W0 L j k n d r bx s s' t cs listed a W) (hno : listed.getD i11 false = false) (hT : RefTurns f args s s' v) (hne : i11 ≠ i5 := by decide) :
    Calls Try.prog f (#[.pointer (some ⟨r, 0, none⟩)] ++ args) W fun e w' => e = .returned v ∧ DoC i5 i11 W0 L j k n d r bx s s' t cs (listed.setIfInBounds i11 true) a' w' := by
  have hs := h.sep
  rw [hno] at hs
  have hk : (turned L j k d r s' (listed.getD i5 false) false)[k]? = some (refI r s) := by
    unfold turned
    have := h.jk
    cases listed.getD i5 false <;> simp [this, h.hk]
  refine (hT W0 W _ k r hs hk).mono fun e w' ⟨he, hw⟩ => ⟨he, ⟨?_, h.hj, h.hk, h.hn, h.jk, h.jn, h.kn, by simpa using h.sz⟩⟩
  have e1 : (listed.setIfInBounds i11 true).getD i11 false = true := by simp [h.sz.2]
  rw [e1, getD_set_ne false hne]
  exact hw
end

end Go.Proofs.Ytoblkjahohlflaa
