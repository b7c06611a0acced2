/- Contracts of the document's own Decode (lodgerref06), for every text: the record whose sector it is, or the error; no memory that was there is changed. -/
import Derived.Test.YtgpcfdkblkkpeaaRecV
import Derived.Test.YtgpcfdkblkkpeaaFreeB
namespace Go.Proofs.Ytgpcfdkblkkpeaa
open Go.RowKit Go.Lib Wd Cr Ck
set_option linter.unusedVariables false

theorem arr68 {α : Type} {cs : Array α} (h : cs.size = 68) : ∃ y0 y1 y2 y3 y4 y5 y6 y7 y8 y9 y10 y11 y12 y13 y14 y15 y16 y17 y18 y19 y20 y21 y22 y23 y24 y25 y26 y27 y28 y29 y30 y31 y32 y33 y34 y35 y36 y37 y38 y39 y40 y41 y42 y43 y44 y45 y46 y47 y48 y49 y50 y51 y52 y53 y54 y55 y56 y57 y58 y59 y60 y61 y62 y63 y64 y65 y66 y67, cs = #[y0, y1, y2, y3, y4, y5, y6, y7, y8, y9, y10, y11, y12, y13, y14, y15, y16, y17, y18, y19, y20, y21, y22, y23, y24, y25, y26, y27, y28, y29, y30, y31, y32, y33, y34, y35, y36, y37, y38, y39, y40, y41, y42, y43, y44, y45, y46, y47, y48, y49, y50, y51, y52, y53, y54, y55, y56, y57, y58, y59, y60, y61, y62, y63, y64, y65, y66, y67] := by
  obtain ⟨l⟩ := cs
  have h0 : l.length = 68 := h
  clear h
  obtain ⟨y0, l1, q0, h1⟩ := list_succ h0
  obtain ⟨y1, l2, q1, h2⟩ := list_succ h1
  obtain ⟨y2, l3, q2, h3⟩ := list_succ h2
  obtain ⟨y3, l4, q3, h4⟩ := list_succ h3
  obtain ⟨y4, l5, q4, h5⟩ := list_succ h4
  obtain ⟨y5, l6, q5, h6⟩ := list_succ h5
  obtain ⟨y6, l7, q6, h7⟩ := list_succ h6
  obtain ⟨y7, l8, q7, h8⟩ := list_succ h7
  obtain ⟨y8, l9, q8, h9⟩ := list_succ h8
  obtain ⟨y9, l10, q9, h10⟩ := list_succ h9
  obtain ⟨y10, l11, q10, h11⟩ := list_succ h10
  obtain ⟨y11, l12, q11, h12⟩ := list_succ h11
  obtain ⟨y12, l13, q12, h13⟩ := list_succ h12
  obtain ⟨y13, l14, q13, h14⟩ := list_succ h13
  obtain ⟨y14, l15, q14, h15⟩ := list_succ h14
  obtain ⟨y15, l16, q15, h16⟩ := list_succ h15
  obtain ⟨y16, l17, q16, h17⟩ := list_succ h16
  obtain ⟨y17, l18, q17, h18⟩ := list_succ h17
  obtain ⟨y18, l19, q18, h19⟩ := list_succ h18
  obtain ⟨y19, l20, q19, h20⟩ := list_succ h19
  obtain ⟨y20, l21, q20, h21⟩ := list_succ h20
  obtain ⟨y21, l22, q21, h22⟩ := list_succ h21
  obtain ⟨y22, l23, q22, h23⟩ := list_succ h22
  obtain ⟨y23, l24, q23, h24⟩ := list_succ h23
  obtain ⟨y24, l25, q24, h25⟩ := list_succ h24
  obtain ⟨y25, l26, q25, h26⟩ := list_succ h25
  obtain ⟨y26, l27, q26, h27⟩ := list_succ h26
  obtain ⟨y27, l28, q27, h28⟩ := list_succ h27
  obtain ⟨y28, l29, q28, h29⟩ := list_succ h28
  obtain ⟨y29, l30, q29, h30⟩ := list_succ h29
  obtain ⟨y30, l31, q30, h31⟩ := list_succ h30
  obtain ⟨y31, l32, q31, h32⟩ := list_succ h31
  obtain ⟨y32, l33, q32, h33⟩ := list_succ h32
  obtain ⟨y33, l34, q33, h34⟩ := list_succ h33
  obtain ⟨y34, l35, q34, h35⟩ := list_succ h34
  obtain ⟨y35, l36, q35, h36⟩ := list_succ h35
  obtain ⟨y36, l37, q36, h37⟩ := list_succ h36
  obtain ⟨y37, l38, q37, h38⟩ := list_succ h37
  obtain ⟨y38, l39, q38, h39⟩ := list_succ h38
  obtain ⟨y39, l40, q39, h40⟩ := list_succ h39
  obtain ⟨y40, l41, q40, h41⟩ := list_succ h40
  obtain ⟨y41, l42, q41, h42⟩ := list_succ h41
  obtain ⟨y42, l43, q42, h43⟩ := list_succ h42
  obtain ⟨y43, l44, q43, h44⟩ := list_succ h43
  obtain ⟨y44, l45, q44, h45⟩ := list_succ h44
  obtain ⟨y45, l46, q45, h46⟩ := list_succ h45
  obtain ⟨y46, l47, q46, h47⟩ := list_succ h46
  obtain ⟨y47, l48, q47, h48⟩ := list_succ h47
  obtain ⟨y48, l49, q48, h49⟩ := list_succ h48
  obtain ⟨y49, l50, q49, h50⟩ := list_succ h49
  obtain ⟨y50, l51, q50, h51⟩ := list_succ h50
  obtain ⟨y51, l52, q51, h52⟩ := list_succ h51
  obtain ⟨y52, l53, q52, h53⟩ := list_succ h52
  obtain ⟨y53, l54, q53, h54⟩ := list_succ h53
  obtain ⟨y54, l55, q54, h55⟩ := list_succ h54
  obtain ⟨y55, l56, q55, h56⟩ := list_succ h55
  obtain ⟨y56, l57, q56, h57⟩ := list_succ h56
  obtain ⟨y57, l58, q57, h58⟩ := list_succ h57
  obtain ⟨y58, l59, q58, h59⟩ := list_succ h58
  obtain ⟨y59, l60, q59, h60⟩ := list_succ h59
  obtain ⟨y60, l61, q60, h61⟩ := list_succ h60
  obtain ⟨y61, l62, q61, h62⟩ := list_succ h61
  obtain ⟨y62, l63, q62, h63⟩ := list_succ h62
  obtain ⟨y63, l64, q63, h64⟩ := list_succ h63
  obtain ⟨y64, l65, q64, h65⟩ := list_succ h64
  obtain ⟨y65, l66, q65, h66⟩ := list_succ h65
  obtain ⟨y66, l67, q66, h67⟩ := list_succ h66
  obtain ⟨y67, l68, q67, h68⟩ := list_succ h67
  have q68 := List.length_eq_zero_iff.1 h68
  subst q68 q67 q66 q65 q64 q63 q62 q61 q60 q59 q58 q57 q56 q55 q54 q53 q52 q51 q50 q49 q48 q47 q46 q45 q44 q43 q42 q41 q40 q39 q38 q37 q36 q35 q34 q33 q32 q31 q30 q29 q28 q27 q26 q25 q24 q23 q22 q21 q20 q19 q18 q17 q16 q15 q14 q13 q12 q11 q10 q9 q8 q7 q6 q5 q4 q3 q2 q1 q0
  exact ⟨y0, y1, y2, y3, y4, y5, y6, y7, y8, y9, y10, y11, y12, y13, y14, y15, y16, y17, y18, y19, y20, y21, y22, y23, y24, y25, y26, y27, y28, y29, y30, y31, y32, y33, y34, y35, y36, y37, y38, y39, y40, y41, y42, y43, y44, y45, y46, y47, y48, y49, y50, y51, y52, y53, y54, y55, y56, y57, y58, y59, y60, y61, y62, y63, y64, y65, y66, y67, rfl⟩

theorem V_mono {VL : List (World → Value → Prop)} {w w' : World} (h : ∀ p ∈ VL, ∀ u, p w u → p w' u) : ∀ j u, Free.V VL j w u → Free.V VL j w' u := by
  intro j u hv
  unfold Free.V at *
  cases hi : VL[j]? with
  | none => simp only [List.getD_eq_getElem?_getD, hi]; exact trivial
  | some p =>
    simp only [List.getD_eq_getElem?_getD, hi, Option.getD_some] at hv ⊢
    exact h p (List.mem_of_getElem? hi) u hv
theorem getD_no {listed : Array Bool} {i : Nat} (h : listed.getD i true = false) : listed.getD i false = false := by
  simp only [Array.getD_eq_getD_getElem?] at *
  cases e : listed[i]? with
  | none => rw [e] at h; simp at h
  | some b => rw [e] at h; simpa using h
theorem r1get0 (s : ByteArray) (r : Int) (w : World) (hr : ((getN s.data.toList : Nat) : Int) = r) :
    Calls Try.prog 21 #[.string s] w fun e w' => e = .returned (.int .u64 r) ∧ w = w' := by
  subst hr; exact R1.get_any s w

/-- Where the document's Decode is: old memory as it was, a zero record at N, and one new block, H, once operation 29 has come up. -/
structure DecC (w : World) (H : Nat) (listed : Array Bool) (W : World) : Prop where
  b : Below w.heap.size w W
  z : ZR W w.heap.size
  n : w.heap.size < H
  sz : listed.getD 29 false = false → W.heap.size = H
theorem DecC.set {w W : World} {H i : Nat} {listed : Array Bool} (h : DecC w H listed W) (hi : i ≠ 29) : DecC w H (listed.setIfInBounds i true) W :=
  ⟨h.b, h.z, h.n, fun hl => h.sz (by rw [← getD_set_ne false hi]; exact hl)⟩
theorem DecC.alloc {w W : World} {H : Nat} {listed : Array Bool} (h : DecC w H listed W) (cs : Array Value) (t : TypeId) (hs : W.heap.size = H) (hlt : 29 < listed.size) : DecC w H (listed.setIfInBounds 29 true) (W.alloc (.cells cs t)) :=
  ⟨Wd.Ge.trans h.b (below1 _ _), h.z.later (below1 _ _), h.n, fun hl => by simp [hlt] at hl⟩
theorem DecC.store {w W : World} {H : Nat} {listed : Array Bool} {l e k v d l' e' k' v' d' : Int} {i a i' a' : ByteArray} (h : DecC w H listed W) (G : FR W H l' e' k' v' d' i' a') :
    DecC w H (listed.setIfInBounds 30 true) ((((((((W.setCell ⟨H, 0, none⟩ (.int .u64 l)).setCell ⟨H, 1, none⟩ (.int .u32 e)).setCell ⟨H, 2, none⟩ (.int .i64 k)).setCell ⟨H, 3, none⟩ (.int .u64 v)).setCell ⟨H, 4, none⟩ (.int .u64 d)).setCell ⟨H, 5, none⟩ (.string i)).setCell ⟨H, 6, none⟩ (.string a))) :=
  have hz : FR W w.heap.size 0 0 0 0 0 ⟨#[]⟩ ⟨#[]⟩ := ⟨h.z.L, h.z.F⟩
  have hn := h.n
  have hz' := hz.away (B := H) (l := l) (e := e) (k := k) (v := v) (d := d) (i := i) (a := a) (by omega)
  ⟨below7 l e k v d i a h.b (Nat.le_of_lt h.n), ⟨hz'.L, hz'.F⟩, h.n, fun hl => by rw [size7]; exact h.sz (by rw [← getD_set_ne false (show 30 ≠ 29 by decide)]; exact hl)⟩

structure DZ (w W : World) : Prop where
  b : Below w.heap.size w W
  z : ZR W w.heap.size
theorem DZ.drawn {w W : World} (h : DZ w W) : DZ w { W with drawn := W.drawn + 1 } :=
  ⟨⟨h.b.os, h.b.tape, h.b.output, h.b.size, h.b.block⟩, ⟨⟨h.z.L.lt, h.z.L.c0, h.z.L.c1, h.z.L.c2, h.z.L.c3, h.z.L.c4, h.z.L.c5, h.z.L.c6⟩, h.z.F⟩⟩

namespace R6
set_option maxHeartbeats 4000000 in
set_option maxRecDepth 100000 in
theorem decode_len (s : ByteArray) (w : World) (hs : s.size ≤ maxLen) (hz : ¬ s.size = 128) :
    Calls Try.prog 14 #[.string s] w fun e' w' => e' = .returned (.tuple #[.agg #[.int .u64 0, .int .u32 0, .int .i64 0, .int .u64 0, .int .u64 0, .string ⟨#[]⟩, .string ⟨#[]⟩], .int .i64 5]) ∧ Below w.heap.size w w' := by
  have hzi : ((s.size : Int) == 128) = false := by rw [beq_eq_false_iff_ne]; omega
  have hzj : ((s.size : Int) != 128) = true := by rw [bne_iff_ne]; omega
  have Z := layZ 33 w
  have B := below1 w (.cells #[.int .u64 0, .int .u32 0, .int .i64 0, .int .u64 0, .int .u64 0, .string ⟨#[]⟩, .string ⟨#[]⟩] 33)
  unfold maxLen at hs
  clear hz
  go_enter Try.func14, Try.ntmps14
  go_upto_region 1 with fail
  generalize w.alloc (.cells #[.int .u64 0, .int .u32 0, .int .i64 0, .int .u64 0, .int .u64 0, .string ⟨#[]⟩, .string ⟨#[]⟩] 33) = w1 at *
  obtain ⟨g', o0, o1, o2, o3, o4, o5, o6⟩ := Z.L
  have z0 := Z.F 0 (by omega)
  have z1 := Z.F 1 (by omega)
  have z2 := Z.F 2 (by omega)
  have z3 := Z.F 3 (by omega)
  have z4 := Z.F 4 (by omega)
  have z5 := Z.F 5 (by omega)
  have z6 := Z.F 6 (by omega)
  have ZZ := Lib.hid Z
  have BB := Lib.hid B
  clear Z B
  go_wp2_with fail
  have L := put7 0 0 0 0 0 ⟨#[]⟩ ⟨#[]⟩ (there_of ZZ.out.L ZZ.out.F) ZZ.out.L.lt
  have HB := below7 0 0 0 0 0 ⟨#[]⟩ ⟨#[]⟩ BB.out (Nat.le_refl _)
  exact bodyPost_ret (res_rec2 rfl _ _ w.heap.size rfl L) rfl ⟨rfl, HB⟩

set_option maxHeartbeats 8000000 in
set_option maxRecDepth 100000 in
theorem decode_at (s : ByteArray) (l e k v d : Int) (i a : ByteArray) (S : ByteArray) (x : Int) (n3 n4 : Nat) (w : World) (hz : s.size = 128) (b13 : (s[13]'(by omega)).toNat = n3) (b14 : (s[14]'(by omega)).toNat = n4) (hn : 31 + n3 + n4 ≤ 112)
    (g0 : Hid (((getN (s.extract 0 8).data.toList : Nat) : Int) = l)) (g1 : Hid (((getN (s.extract 8 12).data.toList : Nat) : Int) = e)) (b12 : ((s[12]'(by omega)).toNat : Int) = k) (g2 : Hid (((getN (s.extract 15 23).data.toList : Nat) : Int) = v)) (g3 : Hid (((getN (s.extract 23 31).data.toList : Nat) : Int) = d))
    (x4 : s.extract 31 (31 + n3) = i) (x5 : s.extract (31 + n3) (31 + n3 + n4) = a) (he : 0 ≤ e ∧ e < 4294967296)
    (E : Hid (∀ w, Calls Try.prog 11 #[.agg #[.int .u64 l, .int .u32 e, .int .i64 k, .int .u64 v, .int .u64 d, .string i, .string a]] w fun e' w' => e' = .returned (.tuple #[.string S, .int .i64 x]) ∧ Below w.heap.size w w')) (rv : Value) (rx : Int)
    (hx : (x = 0 ∧ S = s ∧ rv = .agg #[.int .u64 l, .int .u32 e, .int .i64 k, .int .u64 v, .int .u64 d, .string i, .string a] ∧ rx = 0) ∨ ((x = 5 ∨ x = 0 ∧ (S.toList == s.toList) = false) ∧ rv = .agg #[.int .u64 0, .int .u32 0, .int .i64 0, .int .u64 0, .int .u64 0, .string ⟨#[]⟩, .string ⟨#[]⟩] ∧ rx = 5)) :
    Calls Try.prog 14 #[.string s] w fun e' w' => e' = .returned (.tuple #[rv, .int .i64 rx]) ∧ Below w.heap.size w w' := by
  have hzi : (s.size : Int) = 128 := by omega
  have Z := layZ 33 w
  have B := below1 w (.cells #[.int .u64 0, .int .u32 0, .int .i64 0, .int .u64 0, .int .u64 0, .string ⟨#[]⟩, .string ⟨#[]⟩] 33)
  obtain ⟨A0, x0⟩ : ∃ A, s.extract 0 8 = A := ⟨_, rfl⟩
  obtain ⟨A1, x1⟩ : ∃ A, s.extract 8 12 = A := ⟨_, rfl⟩
  obtain ⟨A2, x2⟩ : ∃ A, s.extract 15 23 = A := ⟨_, rfl⟩
  obtain ⟨A3, x3⟩ : ∃ A, s.extract 23 31 = A := ⟨_, rfl⟩
  rw [x0] at g0
  rw [x1] at g1
  rw [x2] at g2
  rw [x3] at g3
  obtain ⟨m3, hm3⟩ : ∃ m : Nat, 31 + n3 = m := ⟨_, rfl⟩
  rw [hm3] at x4 x5 hn
  obtain ⟨m4, hm4⟩ : ∃ m : Nat, m3 + n4 = m := ⟨_, rfl⟩
  rw [hm4] at x5 hn
  have i3 : 31 + (n3 : Int) = (m3 : Int) := by omega
  have i4 : (m3 : Int) + (n4 : Int) = (m4 : Int) := by omega
  have hn' : (m4 : Int) ≤ 112 := by omega
  have c3 : (n3 : Int) < 256 := by omega
  have c4 : (n4 : Int) < 256 := by omega
  have b31 : (31 : Int) ≤ (m3 : Int) := by omega
  have bm3 : (m3 : Int) ≤ 128 := by omega
  have bm34 : (m3 : Int) ≤ (m4 : Int) := by omega
  have bm4 : (m4 : Int) ≤ 128 := by omega
  have hk0 : 0 ≤ k := by omega
  have hk1 : k < 256 := by
    have := (s[12]'(by omega)).toNat_lt
    omega
  go_enter Try.func14, Try.ntmps14
  go_upto_region 1 with fail
  generalize w.alloc (.cells #[.int .u64 0, .int .u32 0, .int .i64 0, .int .u64 0, .int .u64 0, .string ⟨#[]⟩, .string ⟨#[]⟩] 33) = w1 at *
  have h0 : DZ w w1 := ⟨B, Z⟩
  clear B Z
  go_wp2_with fail
  have hne : Nonempty (In (DZ w)) := ⟨⟨_, h0⟩⟩
  refine region_class (DZ w) (by kernel_rfl) (by kernel_rfl) h0.drawn ?_
  repeat (go_big_quiet_step (fail))
  refine wpQuiet_nil ?_
  rintro _ ⟨jj, rfl⟩
  obtain ⟨w2, h2⟩ := jj
  simp only
  clear h0 hne
  have hlt := h2.z.L.lt
  go_wp2_with fail
  obtain ⟨H, hH⟩ : ∃ H, w2.heap.size = H := ⟨_, rfl⟩
  refine FreeB.wp_freeB [(fun _ u => u = .string s),
    (fun _ u => u = .string A0),
    (fun _ u => u = .int .u64 l),
    (fun _ u => u = .string s),
    (fun _ u => u = .string A1),
    (fun _ u => u = .int .u64 e),
    (fun _ u => u = .int .u32 e),
    (fun _ u => u = .string s),
    (fun _ u => u = .int .u8 k),
    (fun _ u => u = .int .i64 k),
    (fun _ u => u = .string s),
    (fun _ u => u = .string A2),
    (fun _ u => u = .int .u64 v),
    (fun _ u => u = .string s),
    (fun _ u => u = .string A3),
    (fun _ u => u = .int .u64 d),
    (fun _ u => u = .string s),
    (fun _ u => u = .int .i64 (n3 : Int)),
    (fun _ u => u = .int .i64 (m3 : Int)),
    (fun _ u => u = .string i),
    (fun _ u => u = .string s),
    (fun _ u => u = .int .i64 (n3 : Int)),
    (fun _ u => u = .int .i64 (m3 : Int)),
    (fun _ u => u = .int .i64 (n3 : Int)),
    (fun _ u => u = .int .i64 (m3 : Int)),
    (fun _ u => u = .int .i64 (n4 : Int)),
    (fun _ u => u = .int .i64 (m4 : Int)),
    (fun _ u => u = .string a),
    (fun _ u => u = .agg #[.int .u64 l, .int .u32 e, .int .i64 k, .int .u64 v, .int .u64 d, .string i, .string a]),
    (fun w u => u = .pointer (some ⟨H, 0, none⟩) ∧ ∃ l e k v d i a, FR w H l e k v d i a),
    (fun w _ => LiesR w H l e k v d i a)] (DecC w H) (by kernel_rfl) (by kernel_rfl) ⟨h2.drawn.b, h2.drawn.z, by omega, fun _ => hH⟩ ?_ ?_
  · refine ⟨?_, ?_, ?_, ?_, ?_, ?_, ?_, ?_, ?_, ?_, ?_, ?_, ?_, ?_, ?_, ?_, ?_, ?_, ?_, ?_, ?_, ?_, ?_, ?_, ?_, ?_, ?_, ?_, ?_, ?_, ?_, trivial⟩
    · intro listed A W hA hno hr K hK
      have e0 : A.tmps[0]?.getD undef = .string s := slot_is ((hA.kept 0 (Free.not_dst (by kernel_rfl))).trans rfl)
      simp [go_sem, e0]
      exact hK _ _ (hA.c.set (by decide)) rfl (fun _ _ _ _ h => h)
    · intro listed A W hA hno hr K hK
      have e25 : A.tmps[25]?.getD undef = .string s := slot_is (hA.val 0 _ rfl (hr ⟨0, .data⟩ (by simp) rfl))
      simp [go_sem, e25, x0, hz]
      exact hK _ _ (hA.c.set (by decide)) rfl (fun _ _ _ _ h => h)
    · intro listed A W hA hno hr K hK
      have e26 : A.tmps[26]?.getD undef = .string A0 := slot_is (hA.val 1 _ rfl (hr ⟨1, .data⟩ (by simp) rfl))
      simp [go_sem, e26]
      refine (r1get0 _ _ _ g0.out).mono ?_
      rintro e' w' ⟨rfl, rfl⟩
      exact hK _ _ (hA.c.set (by decide)) rfl (fun _ _ _ _ h => h)
    · intro listed A W hA hno hr K hK
      have e0 : A.tmps[0]?.getD undef = .string s := slot_is ((hA.kept 0 (Free.not_dst (by kernel_rfl))).trans rfl)
      simp [go_sem, e0]
      exact hK _ _ (hA.c.set (by decide)) rfl (fun _ _ _ _ h => h)
    · intro listed A W hA hno hr K hK
      have e28 : A.tmps[28]?.getD undef = .string s := slot_is (hA.val 3 _ rfl (hr ⟨3, .data⟩ (by simp) rfl))
      simp [go_sem, e28, x1, hz]
      exact hK _ _ (hA.c.set (by decide)) rfl (fun _ _ _ _ h => h)
    · intro listed A W hA hno hr K hK
      have e29 : A.tmps[29]?.getD undef = .string A1 := slot_is (hA.val 4 _ rfl (hr ⟨4, .data⟩ (by simp) rfl))
      simp [go_sem, e29]
      refine (r1get0 _ _ _ g1.out).mono ?_
      rintro e' w' ⟨rfl, rfl⟩
      exact hK _ _ (hA.c.set (by decide)) rfl (fun _ _ _ _ h => h)
    · intro listed A W hA hno hr K hK
      have e30 : A.tmps[30]?.getD undef = .int .u64 e := slot_is (hA.val 5 _ rfl (hr ⟨5, .data⟩ (by simp) rfl))
      simp [go_sem, e30]
      refine hK _ _ (hA.c.set (by decide)) (show Value.int .u32 _ = .int .u32 e from Cr.val_int ?_) (fun _ _ _ _ h => h)
      first | omega | (rw [IntKind.wrap_u32]; omega)
    · intro listed A W hA hno hr K hK
      have e0 : A.tmps[0]?.getD undef = .string s := slot_is ((hA.kept 0 (Free.not_dst (by kernel_rfl))).trans rfl)
      simp [go_sem, e0]
      exact hK _ _ (hA.c.set (by decide)) rfl (fun _ _ _ _ h => h)
    · intro listed A W hA hno hr K hK
      have e32 : A.tmps[32]?.getD undef = .string s := slot_is (hA.val 7 _ rfl (hr ⟨7, .data⟩ (by simp) rfl))
      simp [go_sem, e32, hz, b12]
      exact hK _ _ (hA.c.set (by decide)) rfl (fun _ _ _ _ h => h)
    · intro listed A W hA hno hr K hK
      have e33 : A.tmps[33]?.getD undef = .int .u8 k := slot_is (hA.val 8 _ rfl (hr ⟨8, .data⟩ (by simp) rfl))
      simp [go_sem, e33]
      refine hK _ _ (hA.c.set (by decide)) (show Value.int .i64 _ = .int .i64 k from Cr.val_int ?_) (fun _ _ _ _ h => h)
      first | omega | (rw [IntKind.wrap_i64]; omega)
    · intro listed A W hA hno hr K hK
      have e0 : A.tmps[0]?.getD undef = .string s := slot_is ((hA.kept 0 (Free.not_dst (by kernel_rfl))).trans rfl)
      simp [go_sem, e0]
      exact hK _ _ (hA.c.set (by decide)) rfl (fun _ _ _ _ h => h)
    · intro listed A W hA hno hr K hK
      have e35 : A.tmps[35]?.getD undef = .string s := slot_is (hA.val 10 _ rfl (hr ⟨10, .data⟩ (by simp) rfl))
      simp [go_sem, e35, x2, hz]
      exact hK _ _ (hA.c.set (by decide)) rfl (fun _ _ _ _ h => h)
    · intro listed A W hA hno hr K hK
      have e36 : A.tmps[36]?.getD undef = .string A2 := slot_is (hA.val 11 _ rfl (hr ⟨11, .data⟩ (by simp) rfl))
      simp [go_sem, e36]
      refine (r1get0 _ _ _ g2.out).mono ?_
      rintro e' w' ⟨rfl, rfl⟩
      exact hK _ _ (hA.c.set (by decide)) rfl (fun _ _ _ _ h => h)
    · intro listed A W hA hno hr K hK
      have e0 : A.tmps[0]?.getD undef = .string s := slot_is ((hA.kept 0 (Free.not_dst (by kernel_rfl))).trans rfl)
      simp [go_sem, e0]
      exact hK _ _ (hA.c.set (by decide)) rfl (fun _ _ _ _ h => h)
    · intro listed A W hA hno hr K hK
      have e38 : A.tmps[38]?.getD undef = .string s := slot_is (hA.val 13 _ rfl (hr ⟨13, .data⟩ (by simp) rfl))
      simp [go_sem, e38, x3, hz]
      exact hK _ _ (hA.c.set (by decide)) rfl (fun _ _ _ _ h => h)
    · intro listed A W hA hno hr K hK
      have e39 : A.tmps[39]?.getD undef = .string A3 := slot_is (hA.val 14 _ rfl (hr ⟨14, .data⟩ (by simp) rfl))
      simp [go_sem, e39]
      refine (r1get0 _ _ _ g3.out).mono ?_
      rintro e' w' ⟨rfl, rfl⟩
      exact hK _ _ (hA.c.set (by decide)) rfl (fun _ _ _ _ h => h)
    · intro listed A W hA hno hr K hK
      have e0 : A.tmps[0]?.getD undef = .string s := slot_is ((hA.kept 0 (Free.not_dst (by kernel_rfl))).trans rfl)
      simp [go_sem, e0]
      exact hK _ _ (hA.c.set (by decide)) rfl (fun _ _ _ _ h => h)
    · intro listed A W hA hno hr K hK
      have e4 : A.tmps[4]?.getD undef = .int .i64 (n3 : Int) := slot_is ((hA.kept 4 (Free.not_dst (by kernel_rfl))).trans rfl)
      simp [go_sem, e4]
      exact hK _ _ (hA.c.set (by decide)) rfl (fun _ _ _ _ h => h)
    · intro listed A W hA hno hr K hK
      have e42 : A.tmps[42]?.getD undef = .int .i64 (n3 : Int) := slot_is (hA.val 17 _ rfl (hr ⟨17, .data⟩ (by simp) rfl))
      simp [go_sem, e42]
      refine hK _ _ (hA.c.set (by decide)) (show Value.int .i64 _ = .int .i64 (m3 : Int) from Cr.val_int ?_) (fun _ _ _ _ h => h)
      first | omega | (rw [IntKind.wrap_i64]; omega)
    · intro listed A W hA hno hr K hK
      have e41 : A.tmps[41]?.getD undef = .string s := slot_is (hA.val 16 _ rfl (hr ⟨16, .data⟩ (by simp) rfl))
      have e43 : A.tmps[43]?.getD undef = .int .i64 (m3 : Int) := slot_is (hA.val 18 _ rfl (hr ⟨18, .data⟩ (by simp) rfl))
      simp [go_sem, e41, e43, x4, hz, b31, bm3]
      exact hK _ _ (hA.c.set (by decide)) rfl (fun _ _ _ _ h => h)
    · intro listed A W hA hno hr K hK
      have e0 : A.tmps[0]?.getD undef = .string s := slot_is ((hA.kept 0 (Free.not_dst (by kernel_rfl))).trans rfl)
      simp [go_sem, e0]
      exact hK _ _ (hA.c.set (by decide)) rfl (fun _ _ _ _ h => h)
    · intro listed A W hA hno hr K hK
      have e4 : A.tmps[4]?.getD undef = .int .i64 (n3 : Int) := slot_is ((hA.kept 4 (Free.not_dst (by kernel_rfl))).trans rfl)
      simp [go_sem, e4]
      exact hK _ _ (hA.c.set (by decide)) rfl (fun _ _ _ _ h => h)
    · intro listed A W hA hno hr K hK
      have e46 : A.tmps[46]?.getD undef = .int .i64 (n3 : Int) := slot_is (hA.val 21 _ rfl (hr ⟨21, .data⟩ (by simp) rfl))
      simp [go_sem, e46]
      refine hK _ _ (hA.c.set (by decide)) (show Value.int .i64 _ = .int .i64 (m3 : Int) from Cr.val_int ?_) (fun _ _ _ _ h => h)
      first | omega | (rw [IntKind.wrap_i64]; omega)
    · intro listed A W hA hno hr K hK
      have e4 : A.tmps[4]?.getD undef = .int .i64 (n3 : Int) := slot_is ((hA.kept 4 (Free.not_dst (by kernel_rfl))).trans rfl)
      simp [go_sem, e4]
      exact hK _ _ (hA.c.set (by decide)) rfl (fun _ _ _ _ h => h)
    · intro listed A W hA hno hr K hK
      have e48 : A.tmps[48]?.getD undef = .int .i64 (n3 : Int) := slot_is (hA.val 23 _ rfl (hr ⟨23, .data⟩ (by simp) rfl))
      simp [go_sem, e48]
      refine hK _ _ (hA.c.set (by decide)) (show Value.int .i64 _ = .int .i64 (m3 : Int) from Cr.val_int ?_) (fun _ _ _ _ h => h)
      first | omega | (rw [IntKind.wrap_i64]; omega)
    · intro listed A W hA hno hr K hK
      have e5 : A.tmps[5]?.getD undef = .int .i64 (n4 : Int) := slot_is ((hA.kept 5 (Free.not_dst (by kernel_rfl))).trans rfl)
      simp [go_sem, e5]
      exact hK _ _ (hA.c.set (by decide)) rfl (fun _ _ _ _ h => h)
    · intro listed A W hA hno hr K hK
      have e49 : A.tmps[49]?.getD undef = .int .i64 (m3 : Int) := slot_is (hA.val 24 _ rfl (hr ⟨24, .data⟩ (by simp) rfl))
      have e50 : A.tmps[50]?.getD undef = .int .i64 (n4 : Int) := slot_is (hA.val 25 _ rfl (hr ⟨25, .data⟩ (by simp) rfl))
      simp [go_sem, e49, e50]
      refine hK _ _ (hA.c.set (by decide)) (show Value.int .i64 _ = .int .i64 (m4 : Int) from Cr.val_int ?_) (fun _ _ _ _ h => h)
      first | omega | (rw [IntKind.wrap_i64]; omega)
    · intro listed A W hA hno hr K hK
      have e45 : A.tmps[45]?.getD undef = .string s := slot_is (hA.val 20 _ rfl (hr ⟨20, .data⟩ (by simp) rfl))
      have e47 : A.tmps[47]?.getD undef = .int .i64 (m3 : Int) := slot_is (hA.val 22 _ rfl (hr ⟨22, .data⟩ (by simp) rfl))
      have e51 : A.tmps[51]?.getD undef = .int .i64 (m4 : Int) := slot_is (hA.val 26 _ rfl (hr ⟨26, .data⟩ (by simp) rfl))
      simp [go_sem, e45, e47, e51, x5, hz, bm34, bm4]
      exact hK _ _ (hA.c.set (by decide)) rfl (fun _ _ _ _ h => h)
    · intro listed A W hA hno hr K hK
      have e27 : A.tmps[27]?.getD undef = .int .u64 l := slot_is (hA.val 2 _ rfl (hr ⟨2, .data⟩ (by simp) rfl))
      have e31 : A.tmps[31]?.getD undef = .int .u32 e := slot_is (hA.val 6 _ rfl (hr ⟨6, .data⟩ (by simp) rfl))
      have e34 : A.tmps[34]?.getD undef = .int .i64 k := slot_is (hA.val 9 _ rfl (hr ⟨9, .data⟩ (by simp) rfl))
      have e37 : A.tmps[37]?.getD undef = .int .u64 v := slot_is (hA.val 12 _ rfl (hr ⟨12, .data⟩ (by simp) rfl))
      have e40 : A.tmps[40]?.getD undef = .int .u64 d := slot_is (hA.val 15 _ rfl (hr ⟨15, .data⟩ (by simp) rfl))
      have e44 : A.tmps[44]?.getD undef = .string i := slot_is (hA.val 19 _ rfl (hr ⟨19, .data⟩ (by simp) rfl))
      have e52 : A.tmps[52]?.getD undef = .string a := slot_is (hA.val 27 _ rfl (hr ⟨27, .data⟩ (by simp) rfl))
      simp [go_sem, e27, e31, e34, e37, e40, e44, e52]
      exact hK _ _ (hA.c.set (by decide)) rfl (fun _ _ _ _ h => h)
    · intro listed A W hA hno hr K hK
      have hsz := hA.c.sz (getD_no hno)
      simp [go_sem]
      refine hK _ _ (hA.c.alloc #[.int .u64 0, .int .u32 0, .int .i64 0, .int .u64 0, .int .u64 0, .string ⟨#[]⟩, .string ⟨#[]⟩] 33 hsz (by have := hA.size; simp at this; omega)) ?_ ?_
      · exact ⟨by rw [← hsz], 0, 0, 0, 0, 0, ⟨#[]⟩, ⟨#[]⟩, by rw [← hsz]; exact layF 0 0 0 0 0 ⟨#[]⟩ ⟨#[]⟩ 33 W⟩
      · intro j u _ _ hv
        refine V_mono (fun p hp u hu => ?_) j u hv
        simp only [List.mem_cons, List.not_mem_nil, or_false] at hp
        rcases hp with rfl | rfl | rfl | rfl | rfl | rfl | rfl | rfl | rfl | rfl | rfl | rfl | rfl | rfl | rfl | rfl | rfl | rfl | rfl | rfl | rfl | rfl | rfl | rfl | rfl | rfl | rfl | rfl | rfl | rfl | rfl
        all_goals first
          | (with_reducible exact hu)
          | exact LiesR.later hu (below1 _ _)
          | (obtain ⟨h1, l', e', k', v', d', i', a', h2⟩ := hu
             exact ⟨h1, l', e', k', v', d', i', a', h2.later (below1 _ _)⟩)
    · intro listed A W hA hno hr K hK
      have e6 : (fun w u => u = .pointer (some ⟨H, 0, none⟩) ∧ ∃ l e k v d i a, FR w H l e k v d i a) W (A.tmps.getD 6 undef) := hA.val 29 _ rfl (hr ⟨29, .data⟩ (by simp) rfl)
      have e53 : A.tmps[53]?.getD undef = .agg #[.int .u64 l, .int .u32 e, .int .i64 k, .int .u64 v, .int .u64 d, .string i, .string a] := slot_is (hA.val 28 _ rfl (hr ⟨28, .data⟩ (by simp) rfl))
      obtain ⟨e6, l', e', k', v', d', i', a', G⟩ := e6
      replace e6 := slot_is e6
      obtain ⟨cg, c0, c1, c2, c3, c4, c5, c6⟩ := G.L
      have z0 := G.F 0 (by omega)
      have z1 := G.F 1 (by omega)
      have z2 := G.F 2 (by omega)
      have z3 := G.F 3 (by omega)
      have z4 := G.F 4 (by omega)
      have z5 := G.F 5 (by omega)
      have z6 := G.F 6 (by omega)
      simp [go_sem, e6, e53, c0, c1, c2, c3, c4, c5, c6, z0, z1, z2, z3, z4, z5, z6]
      refine hK undef _ (hA.c.store (l := l) (e := e) (k := k) (v := v) (d := d) (i := i) (a := a) G) (G.put (l := l) (e := e) (k := k) (v := v) (d := d) (i := i) (a := a)).L ?_
      intro j u _ _ hv
      refine V_mono (fun p hp u hu => ?_) j u hv
      simp only [List.mem_cons, List.not_mem_nil, or_false] at hp
      rcases hp with rfl | rfl | rfl | rfl | rfl | rfl | rfl | rfl | rfl | rfl | rfl | rfl | rfl | rfl | rfl | rfl | rfl | rfl | rfl | rfl | rfl | rfl | rfl | rfl | rfl | rfl | rfl | rfl | rfl | rfl | rfl
      all_goals first
        | (with_reducible exact hu)
        | exact (G.put (l := l) (e := e) (k := k) (v := v) (d := d) (i := i) (a := a)).L
        | exact ⟨And.left hu, l, e, k, v, d, i, a, G.put⟩
  · intro A W hA
    have s6 : A.tmps.getD 6 undef = .pointer (some ⟨H, 0, none⟩) := (hA.val 29 _ rfl rfl).1
    have hL : LiesR W H l e k v d i a := hA.val 30 _ rfl rfl
    have s0 : A.tmps.getD 0 undef = .string s := (hA.kept 0 (Free.not_dst (by kernel_rfl))).trans rfl
    have s2 : A.tmps.getD 2 undef = .pointer (some ⟨w.heap.size, 0, none⟩) := (hA.kept 2 (Free.not_dst (by kernel_rfl))).trans rfl
    have hsz := hA.slots
    have hde := hA.defers
    have Z := hA.c.z
    have B := hA.c.b
    clear hA h2
    obtain ⟨tm, de⟩ := A
    simp only at s6 s0 s2 hsz hde
    obtain ⟨y0, y1, y2, y3, y4, y5, y6, y7, y8, y9, y10, y11, y12, y13, y14, y15, y16, y17, y18, y19, y20, y21, y22, y23, y24, y25, y26, y27, y28, y29, y30, y31, y32, y33, y34, y35, y36, y37, y38, y39, y40, y41, y42, y43, y44, y45, y46, y47, y48, y49, y50, y51, y52, y53, y54, y55, y56, y57, y58, y59, y60, y61, y62, y63, y64, y65, y66, y67, rfl⟩ := arr68 hsz
    have t6 : y6 = .pointer (some ⟨H, 0, none⟩) := s6
    have t0 : y0 = .string s := s0
    have t2 : y2 = .pointer (some ⟨w.heap.size, 0, none⟩) := s2
    subst t6 t0 t2 hde
    clear s6 s0 s2 hsz
    clear g0 g1 g2 g3 x0 x1 x2 x3 x4 x5 b12 b13 b14
    obtain ⟨cg, c0, c1, c2, c3', c4', c5, c6⟩ := hL
    have hL : LiesR W H l e k v d i a := ⟨cg, c0, c1, c2, c3', c4', c5, c6⟩
    go_wp2_with fail
    refine (E.out _).mono ?_
    rintro e' w3 ⟨rfl, hb⟩
    clear c0 c1 c2 c3' c4' c5 c6 cg
    replace hL := hL.later hb
    replace Z := Z.later hb
    replace B := Wd.Ge.trans B hb
    clear hb E
    rcases hx with ⟨rfl, rfl, rfl, rfl⟩ | ⟨hx, rfl, rfl⟩
    · have hq := eq_self S
      obtain ⟨cg, c0, c1, c2, c3', c4', c5, c6⟩ := hL
      obtain ⟨g', o0, o1, o2, o3, o4, o5, o6⟩ := Z.L
      have z0 := Z.F 0 (by omega)
      have z1 := Z.F 1 (by omega)
      have z2 := Z.F 2 (by omega)
      have z3 := Z.F 3 (by omega)
      have z4 := Z.F 4 (by omega)
      have z5 := Z.F 5 (by omega)
      have z6 := Z.F 6 (by omega)
      have ZZ := Lib.hid Z
      have BB := Lib.hid B
      clear Z B
      go_wp2_with fail
      have L := put7 l e k v d i a (there_of ZZ.out.L ZZ.out.F) ZZ.out.L.lt
      have HB := below7 l e k v d i a BB.out (Nat.le_refl _)
      exact bodyPost_ret (res_rec2 rfl _ _ w.heap.size rfl L) rfl ⟨rfl, HB⟩
    · rcases hx with rfl | ⟨rfl, hq⟩
      all_goals
        obtain ⟨g', o0, o1, o2, o3, o4, o5, o6⟩ := Z.L
        have z0 := Z.F 0 (by omega)
        have z1 := Z.F 1 (by omega)
        have z2 := Z.F 2 (by omega)
        have z3 := Z.F 3 (by omega)
        have z4 := Z.F 4 (by omega)
        have z5 := Z.F 5 (by omega)
        have z6 := Z.F 6 (by omega)
        have ZZ := Lib.hid Z
        have BB := Lib.hid B
        clear Z B
        go_wp2_with fail
        have L := put7 0 0 0 0 0 ⟨#[]⟩ ⟨#[]⟩ (there_of ZZ.out.L ZZ.out.F) ZZ.out.L.lt
        have HB := below7 0 0 0 0 0 ⟨#[]⟩ ⟨#[]⟩ BB.out (Nat.le_refl _)
        exact bodyPost_ret (res_rec2 rfl _ _ w.heap.size rfl L) rfl ⟨rfl, HB⟩
end R6
end Go.Proofs.Ytgpcfdkblkkpeaa
