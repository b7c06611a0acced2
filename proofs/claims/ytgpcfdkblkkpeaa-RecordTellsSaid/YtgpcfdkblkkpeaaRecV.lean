/- The contract of the document's own Encode (lodgerref06), for every record: its sector, if it may be, and the error, if not; no memory that was there is changed. -/
import Derived.Test.YtgpcfdkblkkpeaaRecR
namespace Go.Proofs.Ytgpcfdkblkkpeaa
open Go.RowKit Go.Lib Wd Cr Ck
set_option linter.unusedVariables false

theorem r1put (n s : Int) (r : ByteArray) (w : World) (h0 : 0 ≤ n) (h1 : n < 18446744073709551616) (hr : (⟨(putL n.toNat (clampN s)).toArray⟩ : ByteArray) = r) :
    Calls Try.prog 26 #[.int .u64 n, .int .i64 s] w fun e w' => e = .returned (.string r) ∧ Below w.heap.size w w' := by
  subst hr; exact R1.put_any n s w h0 h1

theorem slot_is {xs : Array Value} {n : Nat} {v : Value} (h : xs.getD n undef = v) : xs[n]?.getD undef = v := by simpa using h

theorem conv3 (W : World) (b : Nat) (x y z : Int) (q0 : W.cell? ⟨b, 0, none⟩ = some (.int .u8 x)) (q1 : W.cell? ⟨b, 1, none⟩ = some (.int .u8 y)) (q2 : W.cell? ⟨b, 2, none⟩ = some (.int .u8 z)) :
    (convert 50 9 (.slice (some ⟨b, 0, none⟩) 3 3)).run Try.prog W = .ok (.string (strOfNums [x, y, z])) W := by
  refine run_convert_bytes_arg _ 50 5 Try.underlying50 Try.underlying5 b 0 3 3 [x, y, z] rfl (fun i hi => ?_) 9 Try.underlying9
  match i, hi with
  | 0, _ => exact q0
  | 1, _ => exact q1
  | 2, _ => exact q2

theorem list_succ {α : Type} {l : List α} {n : Nat} (h : l.length = n + 1) : ∃ x r, l = x :: r ∧ r.length = n := by
  cases l with
  | nil => simp at h
  | cons x r => exact ⟨x, r, rfl, by simpa using h⟩
theorem arr64 {α : Type} {cs : Array α} (h : cs.size = 64) : ∃ x0 x1 x2 x3 x4 x5 x6 x7 x8 x9 x10 x11 x12 x13 x14 x15 x16 x17 x18 x19 x20 x21 x22 x23 x24 x25 x26 x27 x28 x29 x30 x31 x32 x33 x34 x35 x36 x37 x38 x39 x40 x41 x42 x43 x44 x45 x46 x47 x48 x49 x50 x51 x52 x53 x54 x55 x56 x57 x58 x59 x60 x61 x62 x63, cs = #[x0, x1, x2, x3, x4, x5, x6, x7, x8, x9, x10, x11, x12, x13, x14, x15, x16, x17, x18, x19, x20, x21, x22, x23, x24, x25, x26, x27, x28, x29, x30, x31, x32, x33, x34, x35, x36, x37, x38, x39, x40, x41, x42, x43, x44, x45, x46, x47, x48, x49, x50, x51, x52, x53, x54, x55, x56, x57, x58, x59, x60, x61, x62, x63] := by
  obtain ⟨l⟩ := cs
  have h0 : l.length = 64 := h
  clear h
  obtain ⟨x0, l1, q0, h1⟩ := list_succ h0
  obtain ⟨x1, l2, q1, h2⟩ := list_succ h1
  obtain ⟨x2, l3, q2, h3⟩ := list_succ h2
  obtain ⟨x3, l4, q3, h4⟩ := list_succ h3
  obtain ⟨x4, l5, q4, h5⟩ := list_succ h4
  obtain ⟨x5, l6, q5, h6⟩ := list_succ h5
  obtain ⟨x6, l7, q6, h7⟩ := list_succ h6
  obtain ⟨x7, l8, q7, h8⟩ := list_succ h7
  obtain ⟨x8, l9, q8, h9⟩ := list_succ h8
  obtain ⟨x9, l10, q9, h10⟩ := list_succ h9
  obtain ⟨x10, l11, q10, h11⟩ := list_succ h10
  obtain ⟨x11, l12, q11, h12⟩ := list_succ h11
  obtain ⟨x12, l13, q12, h13⟩ := list_succ h12
  obtain ⟨x13, l14, q13, h14⟩ := list_succ h13
  obtain ⟨x14, l15, q14, h15⟩ := list_succ h14
  obtain ⟨x15, l16, q15, h16⟩ := list_succ h15
  obtain ⟨x16, l17, q16, h17⟩ := list_succ h16
  obtain ⟨x17, l18, q17, h18⟩ := list_succ h17
  obtain ⟨x18, l19, q18, h19⟩ := list_succ h18
  obtain ⟨x19, l20, q19, h20⟩ := list_succ h19
  obtain ⟨x20, l21, q20, h21⟩ := list_succ h20
  obtain ⟨x21, l22, q21, h22⟩ := list_succ h21
  obtain ⟨x22, l23, q22, h23⟩ := list_succ h22
  obtain ⟨x23, l24, q23, h24⟩ := list_succ h23
  obtain ⟨x24, l25, q24, h25⟩ := list_succ h24
  obtain ⟨x25, l26, q25, h26⟩ := list_succ h25
  obtain ⟨x26, l27, q26, h27⟩ := list_succ h26
  obtain ⟨x27, l28, q27, h28⟩ := list_succ h27
  obtain ⟨x28, l29, q28, h29⟩ := list_succ h28
  obtain ⟨x29, l30, q29, h30⟩ := list_succ h29
  obtain ⟨x30, l31, q30, h31⟩ := list_succ h30
  obtain ⟨x31, l32, q31, h32⟩ := list_succ h31
  obtain ⟨x32, l33, q32, h33⟩ := list_succ h32
  obtain ⟨x33, l34, q33, h34⟩ := list_succ h33
  obtain ⟨x34, l35, q34, h35⟩ := list_succ h34
  obtain ⟨x35, l36, q35, h36⟩ := list_succ h35
  obtain ⟨x36, l37, q36, h37⟩ := list_succ h36
  obtain ⟨x37, l38, q37, h38⟩ := list_succ h37
  obtain ⟨x38, l39, q38, h39⟩ := list_succ h38
  obtain ⟨x39, l40, q39, h40⟩ := list_succ h39
  obtain ⟨x40, l41, q40, h41⟩ := list_succ h40
  obtain ⟨x41, l42, q41, h42⟩ := list_succ h41
  obtain ⟨x42, l43, q42, h43⟩ := list_succ h42
  obtain ⟨x43, l44, q43, h44⟩ := list_succ h43
  obtain ⟨x44, l45, q44, h45⟩ := list_succ h44
  obtain ⟨x45, l46, q45, h46⟩ := list_succ h45
  obtain ⟨x46, l47, q46, h47⟩ := list_succ h46
  obtain ⟨x47, l48, q47, h48⟩ := list_succ h47
  obtain ⟨x48, l49, q48, h49⟩ := list_succ h48
  obtain ⟨x49, l50, q49, h50⟩ := list_succ h49
  obtain ⟨x50, l51, q50, h51⟩ := list_succ h50
  obtain ⟨x51, l52, q51, h52⟩ := list_succ h51
  obtain ⟨x52, l53, q52, h53⟩ := list_succ h52
  obtain ⟨x53, l54, q53, h54⟩ := list_succ h53
  obtain ⟨x54, l55, q54, h55⟩ := list_succ h54
  obtain ⟨x55, l56, q55, h56⟩ := list_succ h55
  obtain ⟨x56, l57, q56, h57⟩ := list_succ h56
  obtain ⟨x57, l58, q57, h58⟩ := list_succ h57
  obtain ⟨x58, l59, q58, h59⟩ := list_succ h58
  obtain ⟨x59, l60, q59, h60⟩ := list_succ h59
  obtain ⟨x60, l61, q60, h61⟩ := list_succ h60
  obtain ⟨x61, l62, q61, h62⟩ := list_succ h61
  obtain ⟨x62, l63, q62, h63⟩ := list_succ h62
  obtain ⟨x63, l64, q63, h64⟩ := list_succ h63
  have q64 := List.length_eq_zero_iff.1 h64
  subst q64 q63 q62 q61 q60 q59 q58 q57 q56 q55 q54 q53 q52 q51 q50 q49 q48 q47 q46 q45 q44 q43 q42 q41 q40 q39 q38 q37 q36 q35 q34 q33 q32 q31 q30 q29 q28 q27 q26 q25 q24 q23 q22 q21 q20 q19 q18 q17 q16 q15 q14 q13 q12 q11 q10 q9 q8 q7 q6 q5 q4 q3 q2 q1 q0
  exact ⟨x0, x1, x2, x3, x4, x5, x6, x7, x8, x9, x10, x11, x12, x13, x14, x15, x16, x17, x18, x19, x20, x21, x22, x23, x24, x25, x26, x27, x28, x29, x30, x31, x32, x33, x34, x35, x36, x37, x38, x39, x40, x41, x42, x43, x44, x45, x46, x47, x48, x49, x50, x51, x52, x53, x54, x55, x56, x57, x58, x59, x60, x61, x62, x63, rfl⟩

theorem refsum_is (s : ByteArray) (M : Int) (w : World) (hs : s.size ≤ maxLen) (hM : ((Crc.more 0 s.data.toList : Nat) : Int) = M) :
    Calls Try.prog 27 #[.string s] w fun e w' => e = .returned (.int .u32 M) ∧ Below w.heap.size w w' := by
  subst hM; exact (refsum_any s w hs).mono fun _ _ ⟨he, hw⟩ => ⟨he, hw ▸ Below.refl _ _⟩

namespace R6
theorem encode_no (l e k v d : Int) (i a : ByteArray) (w : World) (hs : i.size ≤ maxLen) (ha : a.size ≤ maxLen) (h : okR ⟨l, e, k, v, d, i.data.toList, a.data.toList⟩ = false) :
    Calls Try.prog 11 #[.agg #[.int .u64 l, .int .u32 e, .int .i64 k, .int .u64 v, .int .u64 d, .string i, .string a]] w fun e' w' => e' = .returned (.tuple #[.string ⟨#[]⟩, .int .i64 5]) ∧ Below w.heap.size w w' := by
  have C := Lib.hid (fun w => right_any l e k v d i a false w hs ha h)
  have B0 := Lib.hid ((Below.refl w.heap.size w).alloc (Nat.le_refl _) (.cells #[.int .u64 l, .int .u32 e, .int .i64 k, .int .u64 v, .int .u64 d, .string i, .string a] 33))
  go_enter Try.func11, Try.ntmps11
  go_wp2_with fail
  refine (C.out _).mono ?_
  rintro e' w1 ⟨rfl, hb⟩
  go_wp2_with fail
  go_ret2
  exact ⟨rfl, B0.out.trans (hb.mono B0.out.size)⟩

set_option maxHeartbeats 8000000 in
set_option maxRecDepth 100000 in
theorem encode_yes (l e k v d : Int) (i a : ByteArray) (S : ByteArray) (w : World) (hf : Fits ⟨l, e, k, v, d, i.data.toList, a.data.toList⟩) (h : okR ⟨l, e, k, v, d, i.data.toList, a.data.toList⟩ = true) (hS : secL ⟨l, e, k, v, d, i.data.toList, a.data.toList⟩ = S.data.toList) :
    Calls Try.prog 11 #[.agg #[.int .u64 l, .int .u32 e, .int .i64 k, .int .u64 v, .int .u64 d, .string i, .string a]] w fun e' w' => e' = .returned (.tuple #[.string S, .int .i64 0]) ∧ Below w.heap.size w w' := by
  have hk := okR_k h
  have hi := okR_i h
  have ha := okR_a h
  simp only at hk hi ha
  have hik := Go.Lib.size_eq i
  have hak := Go.Lib.size_eq a
  have hlen := fieldsL_len ⟨l, e, k, v, d, i.data.toList, a.data.toList⟩
  simp only at hlen
  have C := Lib.hid (fun w => right_any l e k v d i a true w (by unfold maxLen; omega) (by unfold maxLen; omega) h)
  obtain ⟨l0, l1, e0, e1, v0, v1, d0, d1⟩ := hf
  simp only at l0 l1 e0 e1 v0 v1 d0 d1
  have i0 := inv0 l e k v d i a 33 w
  obtain ⟨T0, H0⟩ : ∃ T : ByteArray, Hid ((⟨(putL l.toNat (clampN 8)).toArray⟩ : ByteArray) = T) := ⟨_, rfl⟩
  obtain ⟨T1, H1⟩ : ∃ T : ByteArray, Hid ((⟨(putL e.toNat (clampN 4)).toArray⟩ : ByteArray) = T) := ⟨_, rfl⟩
  obtain ⟨S3, H3⟩ : ∃ T : ByteArray, Hid (strOfNums [k, (i.size : Int), (a.size : Int)] = T) := ⟨_, rfl⟩
  obtain ⟨T4, H4⟩ : ∃ T : ByteArray, Hid ((⟨(putL v.toNat (clampN 8)).toArray⟩ : ByteArray) = T) := ⟨_, rfl⟩
  obtain ⟨T5, H5⟩ : ∃ T : ByteArray, Hid ((⟨(putL d.toNat (clampN 8)).toArray⟩ : ByteArray) = T) := ⟨_, rfl⟩
  have z0 : T0.size = 8 := by rw [← H0.out]; exact put_size _ _
  have z1 : T1.size = 4 := by rw [← H1.out]; exact put_size _ _
  have z3 : S3.size = 3 := by rw [← H3.out]; rfl
  have z4 : T4.size = 8 := by rw [← H4.out]; exact put_size _ _
  have z5 : T5.size = 8 := by rw [← H5.out]; exact put_size _ _
  obtain ⟨U1, J1⟩ : ∃ U, T0 ++ T1 = U := ⟨_, rfl⟩
  obtain ⟨U2, J2⟩ : ∃ U, U1 ++ S3 = U := ⟨_, rfl⟩
  obtain ⟨U3, J3⟩ : ∃ U, U2 ++ T4 = U := ⟨_, rfl⟩
  obtain ⟨U4, J4⟩ : ∃ U, U3 ++ T5 = U := ⟨_, rfl⟩
  obtain ⟨U5, J5⟩ : ∃ U, U4 ++ i = U := ⟨_, rfl⟩
  obtain ⟨U6, J6⟩ : ∃ U, U5 ++ a = U := ⟨_, rfl⟩
  have y1 : U1.size = 12 := by rw [← J1, ByteArray.size_append]; omega
  have y2 : U2.size = 15 := by rw [← J2, ByteArray.size_append]; omega
  have y3 : U3.size = 23 := by rw [← J3, ByteArray.size_append]; omega
  have y4 : U4.size = 31 := by rw [← J4, ByteArray.size_append]; omega
  have y5 : U5.size = 31 + i.size := by rw [← J5, ByteArray.size_append]; omega
  have y6 : U6.size = 31 + i.size + a.size := by rw [← J6, ByteArray.size_append]; omega
  have E6 : Hid (U6.data.toList = fieldsL ⟨l, e, k, v, d, i.data.toList, a.data.toList⟩) := by
    refine Lib.hid ?_
    have e3 : S3.data.toList = putL k.toNat 1 ++ putL i.size 1 ++ putL a.size 1 := by
      rw [← H3.out]
      simp only [strOfNums, List.map_cons, List.map_nil, putL, Int.toNat_natCast, List.cons_append, List.nil_append]
      rw [Nat.mod_eq_of_lt (by omega : k.toNat < 256), Nat.mod_eq_of_lt (by omega : i.size < 256), Nat.mod_eq_of_lt (by omega : a.size < 256)]
    rw [← J6, ← J5, ← J4, ← J3, ← J2, ← J1]
    simp only [ByteArray.data_append, Array.toList_append, e3, ← H0.out, ← H1.out, ← H4.out, ← H5.out, fieldsL, stampL, ← hik, ← hak, List.append_assoc]
    rfl
  have q1 : ¬ 9223372036854775807 < T0.size + T1.size := by omega
  have q2 : ¬ 9223372036854775807 < U1.size + S3.size := by omega
  have q3 : ¬ 9223372036854775807 < U2.size + T4.size := by omega
  have q4 : ¬ 9223372036854775807 < U3.size + T5.size := by omega
  have q5 : ¬ 9223372036854775807 < U4.size + i.size := by omega
  have q6 : ¬ 9223372036854775807 < U5.size + a.size := by omega
  have kb0 : 0 ≤ k := by omega
  have kb1 : k < 256 := by omega
  have ib : (i.size : Int) < 256 := by omega
  have ab : (a.size : Int) < 256 := by omega
  have hv8 := Try.zeroValue5
  clear z0 z1 z3 z4 z5 y1 y2 y3 y4 y5 hlen hi ha hk
  go_enter Try.func11, Try.ntmps11
  go_wp2_with fail
  refine (C.out _).mono ?_
  rintro e' w1 ⟨rfl, hb1⟩
  have i1 : InvR w w.heap.size l e k v d i a w1 := ⟨Wd.Ge.trans i0.b hb1, i0.m.later hb1⟩
  clear i0 hb1 C
  go_wp2_with fail
  refine Free.wp_free [(fun _ u => u = .pointer (some ⟨w.heap.size, 0, none⟩)),
    (fun _ u => u = .int .u64 l),
    (fun _ u => u = .string T0),
    (fun _ u => u = .pointer (some ⟨w.heap.size, 1, none⟩)),
    (fun _ u => u = .int .u32 e),
    (fun _ u => u = .int .u64 e),
    (fun _ u => u = .string T1),
    (fun _ u => u = .string U1),
    (fun _ u => u = .pointer (some ⟨w.heap.size, 2, none⟩)),
    (fun _ u => u = .int .i64 k),
    (fun _ u => u = .int .u8 k),
    (fun _ u => u = .pointer (some ⟨w.heap.size, 5, none⟩)),
    (fun _ u => u = .string i),
    (fun _ u => u = .int .i64 (i.size : Int)),
    (fun _ u => u = .int .u8 (i.size : Int)),
    (fun _ u => u = .pointer (some ⟨w.heap.size, 6, none⟩)),
    (fun _ u => u = .string a),
    (fun _ u => u = .int .i64 (a.size : Int)),
    (fun _ u => u = .int .u8 (a.size : Int)),
    (fun w u => ∃ b, u = .slice (some ⟨b, 0, none⟩) 3 3 ∧ b < w.heap.size ∧ w.cell? ⟨b, 0, none⟩ = some (.int .u8 k) ∧ w.cell? ⟨b, 1, none⟩ = some (.int .u8 (i.size : Int)) ∧ w.cell? ⟨b, 2, none⟩ = some (.int .u8 (a.size : Int))),
    (fun _ u => u = .string S3),
    (fun _ u => u = .string U2),
    (fun _ u => u = .pointer (some ⟨w.heap.size, 3, none⟩)),
    (fun _ u => u = .int .u64 v),
    (fun _ u => u = .string T4),
    (fun _ u => u = .string U3),
    (fun _ u => u = .pointer (some ⟨w.heap.size, 4, none⟩)),
    (fun _ u => u = .int .u64 d),
    (fun _ u => u = .string T5),
    (fun _ u => u = .string U4),
    (fun _ u => u = .pointer (some ⟨w.heap.size, 5, none⟩)),
    (fun _ u => u = .string i),
    (fun _ u => u = .string U5),
    (fun _ u => u = .pointer (some ⟨w.heap.size, 6, none⟩)),
    (fun _ u => u = .string a),
    (fun _ u => u = .string U6),
    (fun _ u => u = .string U6)] (InvR w w.heap.size l e k v d i a) (fun W W' => Below W.heap.size W W') (by kernel_rfl) (by kernel_rfl) i1.drawn (fun W W' h hb => ⟨Wd.Ge.trans h.b hb, h.m.later hb⟩) ?_ ?_ ?_
  · intro p hp W W' u hb hu
    simp only [List.mem_cons, List.not_mem_nil, or_false] at hp
    rcases hp with rfl | rfl | rfl | rfl | rfl | rfl | rfl | rfl | rfl | rfl | rfl | rfl | rfl | rfl | rfl | rfl | rfl | rfl | rfl | rfl | rfl | rfl | rfl | rfl | rfl | rfl | rfl | rfl | rfl | rfl | rfl | rfl | rfl | rfl | rfl | rfl | rfl
    all_goals first
      | exact hu
      | (obtain ⟨b, e27, hb0, q0, q1, q2⟩ := hu
         exact ⟨b, e27, Nat.lt_of_lt_of_le hb0 hb.size, ((bcell hb).1 _ _ hb0).trans q0, ((bcell hb).1 _ _ hb0).trans q1, ((bcell hb).1 _ _ hb0).trans q2⟩)
  · refine ⟨?_, ?_, ?_, ?_, ?_, ?_, ?_, ?_, ?_, ?_, ?_, ?_, ?_, ?_, ?_, ?_, ?_, ?_, ?_, ?_, ?_, ?_, ?_, ?_, ?_, ?_, ?_, ?_, ?_, ?_, ?_, ?_, ?_, ?_, ?_, ?_, ?_, trivial⟩
    · intro listed A W hA hr K hK
      have e1 : A.tmps[1]?.getD undef = .pointer (some ⟨w.heap.size, 0, none⟩) := slot_is ((hA.kept 1 (Free.not_dst (by kernel_rfl))).trans rfl)
      simp [go_sem, e1]
      exact hK _ _ (Below.refl _ _) rfl
    · intro listed A W hA hr K hK
      have e8 : A.tmps[8]?.getD undef = .pointer (some ⟨w.heap.size, 0, none⟩) := slot_is (hA.val 0 _ rfl (hr ⟨0, .data⟩ (by simp) rfl))
      have c := hA.c.m.c0
      simp [go_sem, e8, c]
      exact hK _ _ (Below.refl _ _) rfl
    · intro listed A W hA hr K hK
      have e9 : A.tmps[9]?.getD undef = .int .u64 l := slot_is (hA.val 1 _ rfl (hr ⟨1, .data⟩ (by simp) rfl))
      simp [go_sem, e9]
      refine (r1put l 8 T0 _ l0 l1 H0.out).mono ?_
      rintro e' w' ⟨rfl, hb⟩
      exact hK _ _ hb rfl
    · intro listed A W hA hr K hK
      have e1 : A.tmps[1]?.getD undef = .pointer (some ⟨w.heap.size, 0, none⟩) := slot_is ((hA.kept 1 (Free.not_dst (by kernel_rfl))).trans rfl)
      simp [go_sem, e1]
      exact hK _ _ (Below.refl _ _) rfl
    · intro listed A W hA hr K hK
      have e11 : A.tmps[11]?.getD undef = .pointer (some ⟨w.heap.size, 1, none⟩) := slot_is (hA.val 3 _ rfl (hr ⟨3, .data⟩ (by simp) rfl))
      have c := hA.c.m.c1
      simp [go_sem, e11, c]
      exact hK _ _ (Below.refl _ _) rfl
    · intro listed A W hA hr K hK
      have e12 : A.tmps[12]?.getD undef = .int .u32 e := slot_is (hA.val 4 _ rfl (hr ⟨4, .data⟩ (by simp) rfl))
      simp [go_sem, e12]
      refine hK _ _ (Below.refl _ _) (show Value.int .u64 _ = .int .u64 e from Cr.val_int ?_)
      first | omega | (rw [IntKind.wrap_u64]; omega)
    · intro listed A W hA hr K hK
      have e13 : A.tmps[13]?.getD undef = .int .u64 e := slot_is (hA.val 5 _ rfl (hr ⟨5, .data⟩ (by simp) rfl))
      simp [go_sem, e13]
      refine (r1put e 4 T1 _ e0 (by omega) H1.out).mono ?_
      rintro e' w' ⟨rfl, hb⟩
      exact hK _ _ hb rfl
    · intro listed A W hA hr K hK
      have e10 : A.tmps[10]?.getD undef = .string T0 := slot_is (hA.val 2 _ rfl (hr ⟨2, .data⟩ (by simp) rfl))
      have e14 : A.tmps[14]?.getD undef = .string T1 := slot_is (hA.val 6 _ rfl (hr ⟨6, .data⟩ (by simp) rfl))
      simp [go_sem, e10, e14, J1, q1]
      exact hK _ _ (Below.refl _ _) rfl
    · intro listed A W hA hr K hK
      have e1 : A.tmps[1]?.getD undef = .pointer (some ⟨w.heap.size, 0, none⟩) := slot_is ((hA.kept 1 (Free.not_dst (by kernel_rfl))).trans rfl)
      simp [go_sem, e1]
      exact hK _ _ (Below.refl _ _) rfl
    · intro listed A W hA hr K hK
      have e16 : A.tmps[16]?.getD undef = .pointer (some ⟨w.heap.size, 2, none⟩) := slot_is (hA.val 8 _ rfl (hr ⟨8, .data⟩ (by simp) rfl))
      have c := hA.c.m.c2
      simp [go_sem, e16, c]
      exact hK _ _ (Below.refl _ _) rfl
    · intro listed A W hA hr K hK
      have e17 : A.tmps[17]?.getD undef = .int .i64 k := slot_is (hA.val 9 _ rfl (hr ⟨9, .data⟩ (by simp) rfl))
      simp [go_sem, e17]
      refine hK _ _ (Below.refl _ _) (show Value.int .u8 _ = .int .u8 k from Cr.val_int ?_)
      first | omega | (rw [IntKind.wrap_u8]; omega)
    · intro listed A W hA hr K hK
      have e1 : A.tmps[1]?.getD undef = .pointer (some ⟨w.heap.size, 0, none⟩) := slot_is ((hA.kept 1 (Free.not_dst (by kernel_rfl))).trans rfl)
      simp [go_sem, e1]
      exact hK _ _ (Below.refl _ _) rfl
    · intro listed A W hA hr K hK
      have e19 : A.tmps[19]?.getD undef = .pointer (some ⟨w.heap.size, 5, none⟩) := slot_is (hA.val 11 _ rfl (hr ⟨11, .data⟩ (by simp) rfl))
      have c := hA.c.m.c5
      simp [go_sem, e19, c]
      exact hK _ _ (Below.refl _ _) rfl
    · intro listed A W hA hr K hK
      have e20 : A.tmps[20]?.getD undef = .string i := slot_is (hA.val 12 _ rfl (hr ⟨12, .data⟩ (by simp) rfl))
      simp [go_sem, e20]
      exact hK _ _ (Below.refl _ _) rfl
    · intro listed A W hA hr K hK
      have e21 : A.tmps[21]?.getD undef = .int .i64 (i.size : Int) := slot_is (hA.val 13 _ rfl (hr ⟨13, .data⟩ (by simp) rfl))
      simp [go_sem, e21]
      refine hK _ _ (Below.refl _ _) (show Value.int .u8 _ = .int .u8 (i.size : Int) from Cr.val_int ?_)
      first | omega | (rw [IntKind.wrap_u8]; omega)
    · intro listed A W hA hr K hK
      have e1 : A.tmps[1]?.getD undef = .pointer (some ⟨w.heap.size, 0, none⟩) := slot_is ((hA.kept 1 (Free.not_dst (by kernel_rfl))).trans rfl)
      simp [go_sem, e1]
      exact hK _ _ (Below.refl _ _) rfl
    · intro listed A W hA hr K hK
      have e23 : A.tmps[23]?.getD undef = .pointer (some ⟨w.heap.size, 6, none⟩) := slot_is (hA.val 15 _ rfl (hr ⟨15, .data⟩ (by simp) rfl))
      have c := hA.c.m.c6
      simp [go_sem, e23, c]
      exact hK _ _ (Below.refl _ _) rfl
    · intro listed A W hA hr K hK
      have e24 : A.tmps[24]?.getD undef = .string a := slot_is (hA.val 16 _ rfl (hr ⟨16, .data⟩ (by simp) rfl))
      simp [go_sem, e24]
      exact hK _ _ (Below.refl _ _) rfl
    · intro listed A W hA hr K hK
      have e25 : A.tmps[25]?.getD undef = .int .i64 (a.size : Int) := slot_is (hA.val 17 _ rfl (hr ⟨17, .data⟩ (by simp) rfl))
      simp [go_sem, e25]
      refine hK _ _ (Below.refl _ _) (show Value.int .u8 _ = .int .u8 (a.size : Int) from Cr.val_int ?_)
      first | omega | (rw [IntKind.wrap_u8]; omega)
    · intro listed A W hA hr K hK
      have e18 : A.tmps[18]?.getD undef = .int .u8 k := slot_is (hA.val 10 _ rfl (hr ⟨10, .data⟩ (by simp) rfl))
      have e22 : A.tmps[22]?.getD undef = .int .u8 (i.size : Int) := slot_is (hA.val 14 _ rfl (hr ⟨14, .data⟩ (by simp) rfl))
      have e26 : A.tmps[26]?.getD undef = .int .u8 (a.size : Int) := slot_is (hA.val 18 _ rfl (hr ⟨18, .data⟩ (by simp) rfl))
      simp [go_sem, e18, e22, e26]
      exact hK _ _ (below1 _ _) ⟨W.heap.size, rfl, by simp, by simp [go_sem], by simp [go_sem], by simp [go_sem]⟩
    · intro listed A W hA hr K hK
      have e27 : (fun w u => ∃ b, u = .slice (some ⟨b, 0, none⟩) 3 3 ∧ b < w.heap.size ∧ w.cell? ⟨b, 0, none⟩ = some (.int .u8 k) ∧ w.cell? ⟨b, 1, none⟩ = some (.int .u8 (i.size : Int)) ∧ w.cell? ⟨b, 2, none⟩ = some (.int .u8 (a.size : Int))) W (A.tmps.getD 27 undef) := hA.val 19 _ rfl (hr ⟨19, .data⟩ (by simp) rfl)
      obtain ⟨b, e27, hb, q0, q1, q2⟩ := e27
      replace e27 := slot_is e27
      have hcv := conv3 W b k (i.size : Int) (a.size : Int) q0 q1 q2
      rw [H3.out] at hcv
      simp [go_sem, e27, hcv]
      exact hK _ _ (Below.refl _ _) rfl
    · intro listed A W hA hr K hK
      have e15 : A.tmps[15]?.getD undef = .string U1 := slot_is (hA.val 7 _ rfl (hr ⟨7, .data⟩ (by simp) rfl))
      have e28 : A.tmps[28]?.getD undef = .string S3 := slot_is (hA.val 20 _ rfl (hr ⟨20, .data⟩ (by simp) rfl))
      simp [go_sem, e15, e28, J2, q2]
      exact hK _ _ (Below.refl _ _) rfl
    · intro listed A W hA hr K hK
      have e1 : A.tmps[1]?.getD undef = .pointer (some ⟨w.heap.size, 0, none⟩) := slot_is ((hA.kept 1 (Free.not_dst (by kernel_rfl))).trans rfl)
      simp [go_sem, e1]
      exact hK _ _ (Below.refl _ _) rfl
    · intro listed A W hA hr K hK
      have e30 : A.tmps[30]?.getD undef = .pointer (some ⟨w.heap.size, 3, none⟩) := slot_is (hA.val 22 _ rfl (hr ⟨22, .data⟩ (by simp) rfl))
      have c := hA.c.m.c3
      simp [go_sem, e30, c]
      exact hK _ _ (Below.refl _ _) rfl
    · intro listed A W hA hr K hK
      have e31 : A.tmps[31]?.getD undef = .int .u64 v := slot_is (hA.val 23 _ rfl (hr ⟨23, .data⟩ (by simp) rfl))
      simp [go_sem, e31]
      refine (r1put v 8 T4 _ v0 v1 H4.out).mono ?_
      rintro e' w' ⟨rfl, hb⟩
      exact hK _ _ hb rfl
    · intro listed A W hA hr K hK
      have e29 : A.tmps[29]?.getD undef = .string U2 := slot_is (hA.val 21 _ rfl (hr ⟨21, .data⟩ (by simp) rfl))
      have e32 : A.tmps[32]?.getD undef = .string T4 := slot_is (hA.val 24 _ rfl (hr ⟨24, .data⟩ (by simp) rfl))
      simp [go_sem, e29, e32, J3, q3]
      exact hK _ _ (Below.refl _ _) rfl
    · intro listed A W hA hr K hK
      have e1 : A.tmps[1]?.getD undef = .pointer (some ⟨w.heap.size, 0, none⟩) := slot_is ((hA.kept 1 (Free.not_dst (by kernel_rfl))).trans rfl)
      simp [go_sem, e1]
      exact hK _ _ (Below.refl _ _) rfl
    · intro listed A W hA hr K hK
      have e34 : A.tmps[34]?.getD undef = .pointer (some ⟨w.heap.size, 4, none⟩) := slot_is (hA.val 26 _ rfl (hr ⟨26, .data⟩ (by simp) rfl))
      have c := hA.c.m.c4
      simp [go_sem, e34, c]
      exact hK _ _ (Below.refl _ _) rfl
    · intro listed A W hA hr K hK
      have e35 : A.tmps[35]?.getD undef = .int .u64 d := slot_is (hA.val 27 _ rfl (hr ⟨27, .data⟩ (by simp) rfl))
      simp [go_sem, e35]
      refine (r1put d 8 T5 _ d0 d1 H5.out).mono ?_
      rintro e' w' ⟨rfl, hb⟩
      exact hK _ _ hb rfl
    · intro listed A W hA hr K hK
      have e33 : A.tmps[33]?.getD undef = .string U3 := slot_is (hA.val 25 _ rfl (hr ⟨25, .data⟩ (by simp) rfl))
      have e36 : A.tmps[36]?.getD undef = .string T5 := slot_is (hA.val 28 _ rfl (hr ⟨28, .data⟩ (by simp) rfl))
      simp [go_sem, e33, e36, J4, q4]
      exact hK _ _ (Below.refl _ _) rfl
    · intro listed A W hA hr K hK
      have e1 : A.tmps[1]?.getD undef = .pointer (some ⟨w.heap.size, 0, none⟩) := slot_is ((hA.kept 1 (Free.not_dst (by kernel_rfl))).trans rfl)
      simp [go_sem, e1]
      exact hK _ _ (Below.refl _ _) rfl
    · intro listed A W hA hr K hK
      have e38 : A.tmps[38]?.getD undef = .pointer (some ⟨w.heap.size, 5, none⟩) := slot_is (hA.val 30 _ rfl (hr ⟨30, .data⟩ (by simp) rfl))
      have c := hA.c.m.c5
      simp [go_sem, e38, c]
      exact hK _ _ (Below.refl _ _) rfl
    · intro listed A W hA hr K hK
      have e37 : A.tmps[37]?.getD undef = .string U4 := slot_is (hA.val 29 _ rfl (hr ⟨29, .data⟩ (by simp) rfl))
      have e39 : A.tmps[39]?.getD undef = .string i := slot_is (hA.val 31 _ rfl (hr ⟨31, .data⟩ (by simp) rfl))
      simp [go_sem, e37, e39, J5, q5]
      exact hK _ _ (Below.refl _ _) rfl
    · intro listed A W hA hr K hK
      have e1 : A.tmps[1]?.getD undef = .pointer (some ⟨w.heap.size, 0, none⟩) := slot_is ((hA.kept 1 (Free.not_dst (by kernel_rfl))).trans rfl)
      simp [go_sem, e1]
      exact hK _ _ (Below.refl _ _) rfl
    · intro listed A W hA hr K hK
      have e41 : A.tmps[41]?.getD undef = .pointer (some ⟨w.heap.size, 6, none⟩) := slot_is (hA.val 33 _ rfl (hr ⟨33, .data⟩ (by simp) rfl))
      have c := hA.c.m.c6
      simp [go_sem, e41, c]
      exact hK _ _ (Below.refl _ _) rfl
    · intro listed A W hA hr K hK
      have e40 : A.tmps[40]?.getD undef = .string U5 := slot_is (hA.val 32 _ rfl (hr ⟨32, .data⟩ (by simp) rfl))
      have e42 : A.tmps[42]?.getD undef = .string a := slot_is (hA.val 34 _ rfl (hr ⟨34, .data⟩ (by simp) rfl))
      simp [go_sem, e40, e42, J6, q6]
      exact hK _ _ (Below.refl _ _) rfl
    · intro listed A W hA hr K hK
      have e43 : A.tmps[43]?.getD undef = .string U6 := slot_is (hA.val 35 _ rfl (hr ⟨35, .data⟩ (by simp) rfl))
      simp [go_sem, e43]
      exact hK _ _ (Below.refl _ _) rfl
  · intro A W hA
    have s4 : A.tmps.getD 4 undef = .string U6 := hA.val 36 _ rfl rfl
    have s1 : A.tmps.getD 1 undef = .pointer (some ⟨w.heap.size, 0, none⟩) := (hA.kept 1 (Free.not_dst (by kernel_rfl))).trans rfl
    have hsz := hA.slots
    have hde := hA.defers
    have i2 := hA.c
    clear hA i1
    obtain ⟨tm, de⟩ := A
    simp only at s4 s1 hsz hde
    obtain ⟨x0, x1, x2, x3, x4, x5, x6, x7, x8, x9, x10, x11, x12, x13, x14, x15, x16, x17, x18, x19, x20, x21, x22, x23, x24, x25, x26, x27, x28, x29, x30, x31, x32, x33, x34, x35, x36, x37, x38, x39, x40, x41, x42, x43, x44, x45, x46, x47, x48, x49, x50, x51, x52, x53, x54, x55, x56, x57, x58, x59, x60, x61, x62, x63, rfl⟩ := arr64 hsz
    have t4 : x4 = .string U6 := s4
    have t1 : x1 = .pointer (some ⟨w.heap.size, 0, none⟩) := s1
    subst t4 t1 hde
    clear s4 s1 hsz
    obtain ⟨b, Hb⟩ : ∃ T : ByteArray, Hid (bodyL ⟨l, e, k, v, d, i.data.toList, a.data.toList⟩ = T.data.toList) := ⟨⟨(bodyL ⟨l, e, k, v, d, i.data.toList, a.data.toList⟩).toArray⟩, Lib.hid (by simp)⟩
    have zb : b.size = 112 := by rw [Go.Lib.size_eq, ← Hb.out]; exact bodyL_len h
    obtain ⟨M, HM⟩ : ∃ M : Int, Hid (((Crc.more 0 b.data.toList : Nat) : Int) = M) := ⟨_, rfl⟩
    have M0 : 0 ≤ M := by rw [← HM.out]; omega
    have M1 : M < 4294967296 := by
      have := Crc.more_lt b.data.toList (s := 0) (by omega)
      rw [← HM.out]; omega
    obtain ⟨T6, H6⟩ : ∃ T : ByteArray, Hid ((⟨(putL M.toNat (clampN 4)).toArray⟩ : ByteArray) = T) := ⟨_, rfl⟩
    have z6 : T6.size = 4 := by rw [← H6.out]; exact put_size _ _
    have z0 : T0.size = 8 := by rw [← H0.out]; exact put_size _ _
    have z1 : T1.size = 4 := by rw [← H1.out]; exact put_size _ _
    obtain ⟨W1, K1⟩ : ∃ U, b ++ T6 = U := ⟨_, rfl⟩
    obtain ⟨W2, K2⟩ : ∃ U, W1 ++ T0 = U := ⟨_, rfl⟩
    have g1 : W1.size = 116 := by rw [← K1, ByteArray.size_append]; omega
    have g2 : W2.size = 124 := by rw [← K2, ByteArray.size_append]; omega
    have K3 : W2 ++ T1 = S := by
      refine app_is ?_
      rw [← K2, ← K1]
      simp only [ByteArray.data_append, Array.toList_append]
      rw [← hS, secL, ← Hb.out, ← H6.out, ← H0.out, ← H1.out, ← HM.out, ← Hb.out, Int.toNat_natCast, List.append_assoc]
      rfl
    have r1 : ¬ 9223372036854775807 < b.size + T6.size := by omega
    have r2 : ¬ 9223372036854775807 < W1.size + T0.size := by omega
    have r3 : ¬ 9223372036854775807 < W2.size + T1.size := by omega
    have hbs : b.size ≤ maxLen := by unfold maxLen; omega
    have hle : U6.size ≤ 111 := by
      have h1 := okR_i h
      have h2 := okR_a h
      simp only [← Go.Lib.size_eq] at h1 h2
      omega
    have HbU : Hid (∀ X : ByteArray, X.size = 112 → (∃ j, X.data.toList = U6.data.toList ++ List.replicate j 0) → X = b) := by
      refine Lib.hid ?_
      rintro X hX ⟨j, hj⟩
      apply bytes_ext
      have hl2 := congrArg List.length hj
      rw [List.length_append, List.length_replicate, ← Go.Lib.size_eq, ← Go.Lib.size_eq, hX] at hl2
      rw [hj, ← Hb.out, bodyL, E6.out]
      congr 2
      have := congrArg List.length E6.out
      rw [← Go.Lib.size_eq] at this
      omega
    clear hS h E6 J1 J2 J3 J4 J5 J6 q1 q2 q3 q4 q5 q6 hik hak g1 g2 z6 z0 z1 y6
    go_wp2_with fail
    go_loop [4] (fun s => ∃ X : ByteArray, X.size ≤ 112 ∧ s = .string X ∧ Hid (∃ j, X.data.toList = U6.data.toList ++ List.replicate j 0)) (fun s => 112 - (match s with | .string X => X.size | _ => 0))
    case atStart => exact ⟨U6, by omega, rfl, Lib.hid ⟨0, by simp⟩⟩
    case round =>
      obtain ⟨X, hX, rfl, HX⟩ := hrel
      by_cases hlt : X.size < 112
      · have hlti : (X.size : Int) < 112 := by omega
        have hxz : ¬ 9223372036854775807 < X.size + (⟨#[0]⟩ : ByteArray).size := by show ¬ 9223372036854775807 < X.size + 1; omega
        obtain ⟨Y, hY⟩ : ∃ Y, X ++ (⟨#[0]⟩ : ByteArray) = Y := ⟨_, rfl⟩
        have hYs : Y.size = X.size + 1 := by rw [← hY, ByteArray.size_append]; rfl
        have HY : Hid (∃ j, Y.data.toList = U6.data.toList ++ List.replicate j 0) := by
          obtain ⟨j, hj⟩ := HX.out
          refine Lib.hid ⟨j + 1, ?_⟩
          rw [← hY, ByteArray.data_append, Array.toList_append, hj, List.replicate_succ', List.append_assoc]
        clear HX
        go_wp2_with fail
        go_round
        case rel => exact ⟨Y, by omega, by rw [← hY], HY⟩
        case measure => show 112 - Y.size < 112 - X.size; omega
      · have hX2 : X.size = 112 := by omega
        obtain rfl := HbU.out X hX2 HX.out
        have hlti : ¬ (X.size : Int) < 112 := by omega
        clear HX HbU hlt
        go_wp2_with fail
        have hne : Nonempty (In (InvR w w.heap.size l e k v d i a)) := ⟨⟨_, i2⟩⟩
        have F0 : ∀ j : In (InvR w w.heap.size l e k v d i a), j.W.cell? ⟨w.heap.size, 0, none⟩ = some (.int .u64 l) := fun j => j.h.m.c0
        have F1 : ∀ j : In (InvR w w.heap.size l e k v d i a), j.W.cell? ⟨w.heap.size, 1, none⟩ = some (.int .u32 e) := fun j => j.h.m.c1
        refine region_class (InvR w w.heap.size l e k v d i a) (by kernel_rfl) (by kernel_rfl) i2.drawn ?_
        repeat (go_big_quiet_step (first
          | (go_at_call 27; with_reducible exact class_call _ (fun hi => inv_ge hi (refsum_is X M _ hbs HM.out)))
          | (go_at_call 26; with_reducible exact class_call _ (fun hi => inv_ge hi (r1put M 4 T6 _ M0 (by omega) H6.out)))
          | (go_at_call 26; with_reducible exact class_call _ (fun hi => inv_ge hi (r1put l 8 T0 _ l0 l1 H0.out)))
          | (go_at_call 26; with_reducible exact class_call _ (fun hi => inv_ge hi (r1put e 4 T1 _ e0 (by omega) H1.out)))))
        refine wpQuiet_nil ?_
        rintro _ ⟨j, rfl⟩
        go_wp2_with fail
        go_ret2
        exact ⟨rfl, j.h.b⟩

end R6
end Go.Proofs.Ytgpcfdkblkkpeaa
