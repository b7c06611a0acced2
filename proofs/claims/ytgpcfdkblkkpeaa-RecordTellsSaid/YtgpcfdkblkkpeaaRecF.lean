/- The contract of record's cut: the fields of any text, as a record; no memory that was there is changed. -/
import Derived.Test.YtgpcfdkblkkpeaaRecD
namespace Go.Proofs.Ytgpcfdkblkkpeaa
open Go.RowKit Go.Lib Wd Cr Ck
set_option linter.unusedVariables false

set_option maxHeartbeats 8000000 in
set_option maxRecDepth 100000 in
theorem cut_any (s : ByteArray) (l e k v d : Int) (i a : ByteArray) (w : World) (hs : s.size ≤ 140737488355328) (hR : cutR s.data.toList = ⟨l, e, k, v, d, i.data.toList, a.data.toList⟩) :
    Calls Try.prog 28 #[.string s] w fun e' w' => e' = .returned (.agg #[.int .u64 l, .int .u32 e, .int .i64 k, .int .u64 v, .int .u64 d, .string i, .string a]) ∧ Below w.heap.size w w' := by
  have hst := fun (a : Addr) (f : Fn) (x y : Array Value) (w : World) => run_store Try.prog w a (.func f x y) .plain rfl
  have hml : ∀ D : ByteArray, D.size ≤ s.size → D.size ≤ maxLen := fun D h => by unfold maxLen; omega
  obtain ⟨D1, R1, B1⟩ := dropE s 8
  obtain ⟨D2, R2, B2⟩ := dropE s 12
  obtain ⟨D3, R3, B3⟩ := dropE s 13
  obtain ⟨D4, R4, B4⟩ := dropE s 14
  obtain ⟨D5, R5, B5⟩ := dropE s 15
  obtain ⟨D6, R6, B6⟩ := dropE s 23
  obtain ⟨D7, R7, B7⟩ := dropE s 31
  obtain ⟨T0, Q0⟩ := takeE s.data.toList 8
  obtain ⟨g0, G0⟩ : ∃ g : Nat, Hid (getN T0.data.toList = g) := ⟨_, rfl⟩
  have X0 : Hid (T0.data.toList = s.data.toList.take 8) := Lib.hid Q0.out.symm
  obtain ⟨T1, Q1⟩ := takeE D1.data.toList 4
  obtain ⟨g1, G1⟩ : ∃ g : Nat, Hid (getN T1.data.toList = g) := ⟨_, rfl⟩
  have X1 : Hid (T1.data.toList = (s.data.toList.drop 8).take 4) := Lib.hid (by rw [← Q1.out, R1.out])
  have b1 : (g1 : Int) < 4294967296 := by
    have := getN_lt_of T1.data.toList 4 4294967296 (by rw [X1.out, List.length_take]; omega) (by omega) (by decide)
    rw [← G1.out]; omega
  obtain ⟨T2, Q2⟩ := takeE D2.data.toList 1
  obtain ⟨g2, G2⟩ : ∃ g : Nat, Hid (getN T2.data.toList = g) := ⟨_, rfl⟩
  have X2 : Hid (T2.data.toList = (s.data.toList.drop 12).take 1) := Lib.hid (by rw [← Q2.out, R2.out])
  have b2 : (g2 : Int) < 256 := by
    have := getN_lt_of T2.data.toList 1 256 (by rw [X2.out, List.length_take]; omega) (by omega) (by decide)
    rw [← G2.out]; omega
  obtain ⟨T3, Q3⟩ := takeE D3.data.toList 1
  obtain ⟨g3, G3⟩ : ∃ g : Nat, Hid (getN T3.data.toList = g) := ⟨_, rfl⟩
  have X3 : Hid (T3.data.toList = (s.data.toList.drop 13).take 1) := Lib.hid (by rw [← Q3.out, R3.out])
  have b3 : (g3 : Int) < 256 := by
    have := getN_lt_of T3.data.toList 1 256 (by rw [X3.out, List.length_take]; omega) (by omega) (by decide)
    rw [← G3.out]; omega
  obtain ⟨T4, Q4⟩ := takeE D4.data.toList 1
  obtain ⟨g4, G4⟩ : ∃ g : Nat, Hid (getN T4.data.toList = g) := ⟨_, rfl⟩
  have X4 : Hid (T4.data.toList = (s.data.toList.drop 14).take 1) := Lib.hid (by rw [← Q4.out, R4.out])
  have b4 : (g4 : Int) < 256 := by
    have := getN_lt_of T4.data.toList 1 256 (by rw [X4.out, List.length_take]; omega) (by omega) (by decide)
    rw [← G4.out]; omega
  obtain ⟨T5, Q5⟩ := takeE D5.data.toList 8
  obtain ⟨g5, G5⟩ : ∃ g : Nat, Hid (getN T5.data.toList = g) := ⟨_, rfl⟩
  have X5 : Hid (T5.data.toList = (s.data.toList.drop 15).take 8) := Lib.hid (by rw [← Q5.out, R5.out])
  obtain ⟨T6, Q6⟩ := takeE D6.data.toList 8
  obtain ⟨g6, G6⟩ : ∃ g : Nat, Hid (getN T6.data.toList = g) := ⟨_, rfl⟩
  have X6 : Hid (T6.data.toList = (s.data.toList.drop 23).take 8) := Lib.hid (by rw [← Q6.out, R6.out])
  obtain ⟨D8, R8, B8⟩ := dropE s (31 + g3)
  obtain ⟨D9, R9, B9⟩ := dropE s (31 + g3 + g4)
  have hid : D7.data.toList.take g3 = i.data.toList := by
    have := congrArg Rec.i hR
    simp only [cutR] at this
    rw [← this, ← R7.out, ← G3.out, X3.out]
  have hva : D8.data.toList.take g4 = a.data.toList := by
    have := congrArg Rec.a hR
    simp only [cutR] at this
    rw [← this, ← R8.out, ← G4.out, X4.out, ← X3.out, G3.out]
  have el : (g0 : Int) = l := by
    have := congrArg Rec.l hR
    simp only [cutR] at this
    rw [← this, ← G0.out, X0.out]
  have ee : (g1 : Int) = e := by
    have := congrArg Rec.e hR
    simp only [cutR] at this
    rw [← this, ← G1.out, X1.out]
  have ek : (g2 : Int) = k := by
    have := congrArg Rec.k hR
    simp only [cutR] at this
    rw [← this, ← G2.out, X2.out]
  have ev : (g5 : Int) = v := by
    have := congrArg Rec.v hR
    simp only [cutR] at this
    rw [← this, ← G5.out, X5.out]
  have ed : (g6 : Int) = d := by
    have := congrArg Rec.d hR
    simp only [cutR] at this
    rw [← this, ← G6.out, X6.out]
  rw [ee] at b1
  rw [ek] at b2
  have e0 : 0 ≤ e := by omega
  have k0 : 0 ≤ k := by omega
  have zi : i.size ≤ 281474976710656 := by
    have := Go.Lib.size_eq i
    rw [← hid, List.length_take] at this
    omega
  have za : a.size ≤ 281474976710656 := by
    have := Go.Lib.size_eq a
    rw [← hva, List.length_take] at this
    omega
  have b3' : g3 < 256 := by omega
  have b4' : g4 < 256 := by omega
  have N0 := Lib.hid (fun W h => @numberC w W w.heap.size s 0 0 0 0 0 ⟨#[]⟩ ⟨#[]⟩ h 8 8 rfl T0 D1 l (hml _ (Nat.le_refl _)) (by omega) Q0.out R1.out (by rw [G0.out]; exact el))
  have N1 := Lib.hid (fun W h => @numberC w W w.heap.size D1 l 0 0 0 0 ⟨#[]⟩ ⟨#[]⟩ h 4 4 rfl T1 D2 e (hml _ B1) (by omega) Q1.out (drop_step R1.out R2.out rfl) (by rw [G1.out]; exact ee))
  have N2 := Lib.hid (fun W h => @numberC w W w.heap.size D2 l e 0 0 0 ⟨#[]⟩ ⟨#[]⟩ h 1 1 rfl T2 D3 k (hml _ B2) (by omega) Q2.out (drop_step R2.out R3.out rfl) (by rw [G2.out]; exact ek))
  have N3 := Lib.hid (fun W h => @numberC w W w.heap.size D3 l e k 0 0 ⟨#[]⟩ ⟨#[]⟩ h 1 1 rfl T3 D4 g3 (hml _ B3) (by omega) Q3.out (drop_step R3.out R4.out rfl) (by rw [G3.out]))
  have N4 := Lib.hid (fun W h => @numberC w W w.heap.size D4 l e k 0 0 ⟨#[]⟩ ⟨#[]⟩ h 1 1 rfl T4 D5 g4 (hml _ B4) (by omega) Q4.out (drop_step R4.out R5.out rfl) (by rw [G4.out]))
  have N5 := Lib.hid (fun W h => @numberC w W w.heap.size D5 l e k 0 0 ⟨#[]⟩ ⟨#[]⟩ h 8 8 rfl T5 D6 v (hml _ B5) (by omega) Q5.out (drop_step R5.out R6.out rfl) (by rw [G5.out]; exact ev))
  have N6 := Lib.hid (fun W h => @numberC w W w.heap.size D6 l e k v 0 ⟨#[]⟩ ⟨#[]⟩ h 8 8 rfl T6 D7 d (hml _ B6) (by omega) Q6.out (drop_step R6.out R7.out rfl) (by rw [G6.out]; exact ed))
  have N7 := Lib.hid (fun W h => @textC w W w.heap.size D7 l e k v d ⟨#[]⟩ ⟨#[]⟩ h g3 g3 rfl i D8 (hml _ B7) b3' hid (drop_step R7.out R8.out rfl))
  have N8 := Lib.hid (fun W h => @textC w W w.heap.size D8 l e k v d i ⟨#[]⟩ h g4 g4 rfl a D9 (hml _ B8) b4' hva (drop_step R8.out R9.out rfl))
  have h0 := cutW0 s w
  clear hid hva el ee ek ev ed hR hml X0 X1 X2 X3 X4 X5 X6
  go_enter Try.func28, Try.ntmps28
  go_wp2_with fail
  refine (N0.out _ h0).mono ?_
  rintro e' w1 ⟨rfl, h1⟩
  have m := h1.m.c0
  have f := h1.mF 0 (by omega)
  go_wp2_with fail
  refine (N1.out _ (h1.set0 l)).mono ?_
  rintro e' w2 ⟨rfl, h2⟩
  clear m f
  have m := h2.m.c1
  have f := h2.mF 1 (by omega)
  go_wp2_with fail
  refine (N2.out _ (h2.set1 e)).mono ?_
  rintro e' w3 ⟨rfl, h3⟩
  clear m f
  have m := h3.m.c2
  have f := h3.mF 2 (by omega)
  go_wp2_with fail
  refine (N3.out _ (h3.set2 k)).mono ?_
  rintro e' w4 ⟨rfl, h4⟩
  clear m f
  go_wp2_with fail
  refine (N4.out _ h4).mono ?_
  rintro e' w5 ⟨rfl, h5⟩
  go_wp2_with fail
  refine (N5.out _ h5).mono ?_
  rintro e' w6 ⟨rfl, h6⟩
  have m := h6.m.c3
  have f := h6.mF 3 (by omega)
  go_wp2_with fail
  refine (N6.out _ (h6.set3 v)).mono ?_
  rintro e' w7 ⟨rfl, h7⟩
  clear m f
  have m := h7.m.c4
  have f := h7.mF 4 (by omega)
  have h8 := h7.set4 d
  have fn := h8.fn
  go_wp2_with fail
  refine (N7.out _ h8).mono ?_
  rintro e' w8 ⟨rfl, h9⟩
  clear m f fn
  go_wp2_with fail
  refine (clone_any i _ zi).mono ?_
  rintro e' w9 ⟨rfl, hb⟩
  have h10 := h9.later hb
  have m := h10.m.c5
  have f := h10.mF 5 (by omega)
  have h11 := h10.set5 i
  have fn := h11.fn
  go_wp2_with fail
  refine (N8.out _ h11).mono ?_
  rintro e' w10 ⟨rfl, h12⟩
  clear m f fn hb
  go_wp2_with fail
  refine (clone_any a _ za).mono ?_
  rintro e' w11 ⟨rfl, hb⟩
  have h13 := h12.later hb
  have m := h13.m.c6
  have f := h13.mF 6 (by omega)
  have h14 := h13.set6 a
  obtain ⟨g, c0, c1, c2, c3, c4, c5, c6⟩ := h14.m
  obtain ⟨g', o0, o1, o2, o3, o4, o5, o6⟩ := h14.o
  have z0 := h14.oF 0 (by omega)
  have z1 := h14.oF 1 (by omega)
  have z2 := h14.oF 2 (by omega)
  have z3 := h14.oF 3 (by omega)
  have z4 := h14.oF 4 (by omega)
  have z5 := h14.oF 5 (by omega)
  have z6 := h14.oF 6 (by omega)
  have HH := Lib.hid h14
  clear hb h14 h13 h12 h11 h10 h9 h8 h7 h6 h5 h4 h3 h2 h1 h0
  clear N0 N1 N2 N3 N4 N5 N6 N7 N8 hst
  go_wp2_with fail
  have L := put7 l e k v d i a (there_of HH.out.o HH.out.oF) HH.out.o.lt
  have HB := below7 l e k v d i a HH.out.b (Nat.le_refl _)
  exact bodyPost_ret (res_rec1 rfl _ _ w.heap.size rfl L) rfl ⟨rfl, HB⟩

end Go.Proofs.Ytgpcfdkblkkpeaa
