/- The statements' fixed calls: the plain index at each of them. -/
import Derived.Test.YtjdkgkllgapgjaaJxK
namespace Go.Proofs.Ytjdkgkllgapgjaa.Ix
open Go.RowKit Go.Lib
open Re (Rec Key isL rcA RR RC cut80 cutR ROk)
open Sp
set_option linter.unusedVariables false
set_option linter.unusedSimpArgs false
set_option maxRecDepth 100000

abbrev cA : ByteArray := ⟨#[97]⟩
abbrev cB : ByteArray := ⟨#[98]⟩
abbrev cC : ByteArray := ⟨#[99]⟩
abbrev cV : ByteArray := ⟨#[118]⟩
abbrev cXY : ByteArray := ⟨#[120, 121]⟩
abbrev c0 : ByteArray := ⟨#[]⟩
abbrev n1 : Nw := ⟨cA, 1, 0, true, 33, 0, 0⟩
abbrev n2 : Nw := ⟨cA, 2, 0, true, 32, 0, 1⟩
abbrev n3 : Nw := ⟨cB, 7, 5, true, 34, 1, 1⟩
abbrev n4 : Nw := ⟨cA, 2, 0, false, 32, 0, 1⟩
abbrev Y0 : Idx := ⟨[], []⟩
abbrev Y1 : Idx := ⟨[⟨cA, 0, 0⟩], [n1]⟩
abbrev Y2 : Idx := ⟨[⟨cA, 0, 0⟩, ⟨cA, 0, 1⟩], [n2]⟩
abbrev Y3 : Idx := ⟨[⟨cA, 0, 0⟩, ⟨cA, 0, 1⟩, ⟨cA, 1, 0⟩], [n2]⟩
abbrev Y6 : Idx := ⟨[⟨cA, 0, 0⟩, ⟨cA, 0, 1⟩, ⟨cA, 1, 0⟩, ⟨cB, 1, 1⟩], [n2, n3]⟩
abbrev Y7 : Idx := ⟨[⟨cA, 0, 0⟩, ⟨cA, 0, 1⟩, ⟨cA, 1, 0⟩, ⟨cB, 1, 1⟩], [n4, n3]⟩
abbrev Y8 : Idx := ⟨[⟨cA, 1, 0⟩, ⟨cB, 1, 1⟩], [n3]⟩
abbrev r1 : Rec := ⟨0, 0, 1, 1, 0, cA, cV⟩
abbrev r2 : Rec := ⟨0, 0, 1, 2, 0, cA, c0⟩
abbrev r3 : Rec := ⟨0, 0, 1, 1, 0, cA, c0⟩
abbrev r4 : Rec := ⟨0, 0, 1, 9, 0, cB, c0⟩
abbrev r5 : Rec := ⟨0, 0, 3, 0, 0, c0, c0⟩
abbrev r6 : Rec := ⟨0, 0, 1, 7, 5, cB, cXY⟩
theorem kA : cA.toList = [97] := by rw [Lib.toList_data]
theorem kB : cB.toList = [98] := by rw [Lib.toList_data]
theorem kC : cC.toList = [99] := by rw [Lib.toList_data]
theorem k0 : c0.toList = [] := by rw [Lib.toList_data]
theorem fx1 : addX Y0 r1 0 0 = Y1 ∧ addB Y0 r1 0 0 = true := by constructor <;> (simp only [addX, addB, mayX, older, fndX, atX, isAt, isL, setL, entOf, killX, kill1, liveX, goneX, goneN, othX, idsX, inN, inL, inZ, Nw.key, Std.key, Rec.key, kA, kB, kC, k0, List.find?, List.filter, List.map, List.countP_cons, List.countP_nil, List.append_nil, List.nil_append]; try (first | rfl | decide))
theorem fx2 : addX Y1 r2 0 1 = Y2 ∧ addB Y1 r2 0 1 = true := by constructor <;> (simp only [addX, addB, mayX, older, fndX, atX, isAt, isL, setL, entOf, killX, kill1, liveX, goneX, goneN, othX, idsX, inN, inL, inZ, Nw.key, Std.key, Rec.key, kA, kB, kC, k0, List.find?, List.filter, List.map, List.countP_cons, List.countP_nil, List.append_nil, List.nil_append]; try (first | rfl | decide))
theorem fx3 : addX Y2 r3 1 0 = Y3 ∧ addB Y2 r3 1 0 = false := by constructor <;> (simp only [addX, addB, mayX, older, fndX, atX, isAt, isL, setL, entOf, killX, kill1, liveX, goneX, goneN, othX, idsX, inN, inL, inZ, Nw.key, Std.key, Rec.key, kA, kB, kC, k0, List.find?, List.filter, List.map, List.countP_cons, List.countP_nil, List.append_nil, List.nil_append]; try (first | rfl | decide))
theorem fx4 : addX Y3 r4 1 0 = Y3 ∧ addB Y3 r4 1 0 = false := by constructor <;> (simp only [addX, addB, mayX, older, fndX, atX, isAt, isL, setL, entOf, killX, kill1, liveX, goneX, goneN, othX, idsX, inN, inL, inZ, Nw.key, Std.key, Rec.key, kA, kB, kC, k0, List.find?, List.filter, List.map, List.countP_cons, List.countP_nil, List.append_nil, List.nil_append]; try (first | rfl | decide))
theorem fx5 : addX Y3 r5 2 0 = Y3 ∧ addB Y3 r5 2 0 = false := by constructor <;> (simp only [addX, addB, mayX, older, fndX, atX, isAt, isL, setL, entOf, killX, kill1, liveX, goneX, goneN, othX, idsX, inN, inL, inZ, Nw.key, Std.key, Rec.key, kA, kB, kC, k0, List.find?, List.filter, List.map, List.countP_cons, List.countP_nil, List.append_nil, List.nil_append]; try (first | rfl | decide))
theorem fx6 : addX Y3 r6 1 1 = Y6 ∧ addB Y3 r6 1 1 = true := by constructor <;> (simp only [addX, addB, mayX, older, fndX, atX, isAt, isL, setL, entOf, killX, kill1, liveX, goneX, goneN, othX, idsX, inN, inL, inZ, Nw.key, Std.key, Rec.key, kA, kB, kC, k0, List.find?, List.filter, List.map, List.countP_cons, List.countP_nil, List.append_nil, List.nil_append]; try (first | rfl | decide))
theorem fx7 : fndX Y6 cA.toList = some n2 := by (simp only [addX, addB, mayX, older, fndX, atX, isAt, isL, setL, entOf, killX, kill1, liveX, goneX, goneN, othX, idsX, inN, inL, inZ, Nw.key, Std.key, Rec.key, kA, kB, kC, k0, List.find?, List.filter, List.map, List.countP_cons, List.countP_nil, List.append_nil, List.nil_append]; try (first | rfl | decide))
theorem fx8 : fndX Y6 cC.toList = none := by (simp only [addX, addB, mayX, older, fndX, atX, isAt, isL, setL, entOf, killX, kill1, liveX, goneX, goneN, othX, idsX, inN, inL, inZ, Nw.key, Std.key, Rec.key, kA, kB, kC, k0, List.find?, List.filter, List.map, List.countP_cons, List.countP_nil, List.append_nil, List.nil_append]; try (first | rfl | decide))
theorem fx9 : atX Y6 1 0 = some ⟨cA, 1, 0⟩ := by (simp only [addX, addB, mayX, older, fndX, atX, isAt, isL, setL, entOf, killX, kill1, liveX, goneX, goneN, othX, idsX, inN, inL, inZ, Nw.key, Std.key, Rec.key, kA, kB, kC, k0, List.find?, List.filter, List.map, List.countP_cons, List.countP_nil, List.append_nil, List.nil_append]; try (first | rfl | decide))
theorem fxa : inN Y6 0 = 1 ∧ inL Y6 0 = 1 ∧ inZ Y6 0 = 32 := by refine ⟨?_, ?_, ?_⟩ <;> (simp only [addX, addB, mayX, older, fndX, atX, isAt, isL, setL, entOf, killX, kill1, liveX, goneX, goneN, othX, idsX, inN, inL, inZ, Nw.key, Std.key, Rec.key, kA, kB, kC, k0, List.find?, List.filter, List.map, List.countP_cons, List.countP_nil, List.append_nil, List.nil_append]; try (first | rfl | decide))
theorem fxb : othX Y6 cA.toList 1 = 2 := by (simp only [addX, addB, mayX, older, fndX, atX, isAt, isL, setL, entOf, killX, kill1, liveX, goneX, goneN, othX, idsX, inN, inL, inZ, Nw.key, Std.key, Rec.key, kA, kB, kC, k0, List.find?, List.filter, List.map, List.countP_cons, List.countP_nil, List.append_nil, List.nil_append]; try (first | rfl | decide))
theorem fxk : setL (kill1 n2) Y6.L = Y7.L := by (simp only [addX, addB, mayX, older, fndX, atX, isAt, isL, setL, entOf, killX, kill1, liveX, goneX, goneN, othX, idsX, inN, inL, inZ, Nw.key, Std.key, Rec.key, kA, kB, kC, k0, List.find?, List.filter, List.map, List.countP_cons, List.countP_nil, List.append_nil, List.nil_append]; try (first | rfl | decide))
theorem fxc : liveX Y6 cA.toList = true ∧ killX Y6 cA.toList = Y7 := by
  refine ⟨by unfold liveX; rw [fx7], ?_⟩
  unfold killX
  rw [fx7]
  show (⟨Y6.S, setL (kill1 n2) Y6.L⟩ : Idx) = Y7
  rw [fxk]
theorem fxd : liveX Y7 cA.toList = false ∧ killX Y7 cA.toList = Y7 := by constructor <;> (simp only [addX, addB, mayX, older, fndX, atX, isAt, isL, setL, entOf, killX, kill1, liveX, goneX, goneN, othX, idsX, inN, inL, inZ, Nw.key, Std.key, Rec.key, kA, kB, kC, k0, List.find?, List.filter, List.map, List.countP_cons, List.countP_nil, List.append_nil, List.nil_append]; try (first | rfl | decide))
theorem fxe : goneN Y7 0 = 2 ∧ goneX Y7 0 = Y8 := by constructor <;> (simp only [addX, addB, mayX, older, fndX, atX, isAt, isL, setL, entOf, killX, kill1, liveX, goneX, goneN, othX, idsX, inN, inL, inZ, Nw.key, Std.key, Rec.key, kA, kB, kC, k0, List.find?, List.filter, List.map, List.countP_cons, List.countP_nil, List.append_nil, List.nil_append]; try (first | rfl | decide))
theorem fxf : fndX Y8 cA.toList = none := by (simp only [addX, addB, mayX, older, fndX, atX, isAt, isL, setL, entOf, killX, kill1, liveX, goneX, goneN, othX, idsX, inN, inL, inZ, Nw.key, Std.key, Rec.key, kA, kB, kC, k0, List.find?, List.filter, List.map, List.countP_cons, List.countP_nil, List.append_nil, List.nil_append]; try (first | rfl | decide))
theorem fxg : idsX Y8 = [cB] := by (simp only [addX, addB, mayX, older, fndX, atX, isAt, isL, setL, entOf, killX, kill1, liveX, goneX, goneN, othX, idsX, inN, inL, inZ, Nw.key, Std.key, Rec.key, kA, kB, kC, k0, List.find?, List.filter, List.map, List.countP_cons, List.countP_nil, List.append_nil, List.nil_append]; try (first | rfl | decide))
theorem fxh : othX Y8 cA.toList 0 = 1 := by (simp only [addX, addB, mayX, older, fndX, atX, isAt, isL, setL, entOf, killX, kill1, liveX, goneX, goneN, othX, idsX, inN, inL, inZ, Nw.key, Std.key, Rec.key, kA, kB, kC, k0, List.find?, List.filter, List.map, List.countP_cons, List.countP_nil, List.append_nil, List.nil_append]; try (first | rfl | decide))
set_option maxHeartbeats 32000000 in
theorem fixed_any {XI : Nat → Idx → Sp.Item} (P : Prg XI) (w : World) : Calls Try.prog 14 #[] w fun e w' => e = .returned (.bool true) ∧ Below w.heap.size w w' := by
  have HP := Lib.hid P
  have F1 := Lib.hid (show RF r1 from ⟨by decide, by decide, by decide, by decide⟩)
  have F2 := Lib.hid (show RF r2 from ⟨by decide, by decide, by decide, by decide⟩)
  have F3 := Lib.hid (show RF r3 from ⟨by decide, by decide, by decide, by decide⟩)
  have F4 := Lib.hid (show RF r4 from ⟨by decide, by decide, by decide, by decide⟩)
  have F5 := Lib.hid (show RF r5 from ⟨by decide, by decide, by decide, by decide⟩)
  have F6 := Lib.hid (show RF r6 from ⟨by decide, by decide, by decide, by decide⟩)
  have GY0 := Lib.hid (show Good Y0 from Good.nil)
  have GY1 := Lib.hid (show Good Y1 by rw [← fx1.1]; exact GY0.out.add F1.out _ _ (by decide))
  have GY2 := Lib.hid (show Good Y2 by rw [← fx2.1]; exact GY1.out.add F2.out _ _ (by decide))
  have GY3 := Lib.hid (show Good Y3 by rw [← fx3.1]; exact GY2.out.add F3.out _ _ (by decide))
  have GY6 := Lib.hid (show Good Y6 by rw [← fx6.1]; exact GY3.out.add F6.out _ _ (by decide))
  have GY7 := Lib.hid (show Good Y7 by rw [← fxc.2]; exact GY6.out.kill _)
  have GY8 := Lib.hid (show Good Y8 by rw [← fxe.2]; exact GY7.out.gone _)
  clear P
  go_enter Try.func14, Try.ntmps14
  have HB0 := Lib.hid (Below.refl w.heap.size w)
  go_wp2_with fail
  refine (HP.out.nw (Sp.Sep.nil HB0.out)).mono ?_
  rintro e' w1 ⟨g, rfl, h1⟩
  have H1 := Lib.hid (show Sp.Sep w w1 [XI g Y0] from h1)
  clear h1
  have C1 := HP.out.ad r1 0 0 (by decide) (by decide) (by decide) (by decide) H1.out (k := 0) rfl GY0.out F1.out (by decide)
  rw [fx1.1, fx1.2] at C1
  have HC1 := Lib.hid C1
  clear C1
  go_wp2_with fail
  refine HC1.out.mono ?_
  rintro e' w2 ⟨rfl, h⟩
  have H2 := Lib.hid (show Sp.Sep w w2 [XI g Y1] from h)
  clear h HC1
  have C2 := HP.out.ad r2 0 1 (by decide) (by decide) (by decide) (by decide) H2.out (k := 0) rfl GY1.out F2.out (by decide)
  rw [fx2.1, fx2.2] at C2
  have HC2 := Lib.hid C2
  clear C2
  go_wp2_with fail
  refine HC2.out.mono ?_
  rintro e' w3 ⟨rfl, h⟩
  have H3 := Lib.hid (show Sp.Sep w w3 [XI g Y2] from h)
  clear h HC2
  have C3 := HP.out.ad r3 1 0 (by decide) (by decide) (by decide) (by decide) H3.out (k := 0) rfl GY2.out F3.out (by decide)
  rw [fx3.1, fx3.2] at C3
  have HC3 := Lib.hid C3
  clear C3
  go_wp2_with fail
  refine HC3.out.mono ?_
  rintro e' w4 ⟨rfl, h⟩
  have H4 := Lib.hid (show Sp.Sep w w4 [XI g Y3] from h)
  clear h HC3
  have C4 := HP.out.ad r4 1 0 (by decide) (by decide) (by decide) (by decide) H4.out (k := 0) rfl GY3.out F4.out (by decide)
  rw [fx4.1, fx4.2] at C4
  have HC4 := Lib.hid C4
  clear C4
  go_wp2_with fail
  refine HC4.out.mono ?_
  rintro e' w5 ⟨rfl, h⟩
  have H5 := Lib.hid (show Sp.Sep w w5 [XI g Y3] from h)
  clear h HC4
  have C5 := HP.out.ad r5 2 0 (by decide) (by decide) (by decide) (by decide) H5.out (k := 0) rfl GY3.out F5.out (by decide)
  rw [fx5.1, fx5.2] at C5
  have HC5 := Lib.hid C5
  clear C5
  go_wp2_with fail
  refine HC5.out.mono ?_
  rintro e' w6 ⟨rfl, h⟩
  have H6 := Lib.hid (show Sp.Sep w w6 [XI g Y3] from h)
  clear h HC5
  have C6 := HP.out.ad r6 1 1 (by decide) (by decide) (by decide) (by decide) H6.out (k := 0) rfl GY3.out F6.out (by decide)
  rw [fx6.1, fx6.2] at C6
  have HC6 := Lib.hid C6
  clear C6
  go_wp2_with fail
  refine HC6.out.mono ?_
  rintro e' w7 ⟨rfl, h⟩
  have H7 := Lib.hid (show Sp.Sep w w7 [XI g Y6] from h)
  clear h HC6
  have C7 : Calls Try.prog 11 #[.pointer (some ⟨g, 0, none⟩), .string cA] w7 fun e w' => e = .returned (.tuple #[.agg (enA n2), .bool true]) ∧ Below w7.heap.size w7 w' := by
    have := HP.out.ne cA (by decide) H7.out (k := 0) rfl GY6.out
    rw [fx7] at this
    exact this
  have HC7 := Lib.hid C7
  clear C7
  go_wp2_with fail
  refine HC7.out.mono ?_
  rintro e' w8 ⟨rfl, hb8⟩
  have H8 := Lib.hid (loc_alloc (H7.out.later hb8) 34 (enA n2))
  clear hb8 HC7
  have C8 : Calls Try.prog 11 #[.pointer (some ⟨g, 0, none⟩), .string cC] (w8.alloc (.cells (enA n2) 34)) fun e w' => e = .returned (.tuple #[.agg #[.int .u64 0, .int .u64 0, .bool false, .int .i64 0, .int .i64 0, .int .i64 0], .bool false]) ∧ Below (w8.alloc (.cells (enA n2) 34)).heap.size (w8.alloc (.cells (enA n2) 34)) w' := by
    have := HP.out.ne cC (by decide) H8.out (k := 0) rfl GY6.out
    rw [fx8] at this
    exact this
  have HC8 := Lib.hid C8
  clear C8
  go_wp2_with fail
  refine HC8.out.mono ?_
  rintro e' w9 ⟨rfl, hb9⟩
  obtain ⟨r8, hr8⟩ : ∃ r8, w8.heap.size = r8 := ⟨_, rfl⟩
  have H9 : Hid (Sp.Sep w (w9.alloc (.cells #[.int .u64 0, .int .u64 0, .bool false, .int .i64 0, .int .i64 0, .int .i64 0] 34)) [XI g Y6, locI [(r8, 34, enA n2)]]) := Lib.hid (by rw [← hr8]; exact (H8.out.later hb9).alloc _)
  rw [hr8]
  clear hb9 HC8 hr8
  have C9 : Calls Try.prog 12 #[.pointer (some ⟨g, 0, none⟩), .agg #[.int .i64 1, .int .i64 0]] (w9.alloc (.cells #[.int .u64 0, .int .u64 0, .bool false, .int .i64 0, .int .i64 0, .int .i64 0] 34)) fun e w' => e = .returned (.tuple #[.string cA, .bool true]) ∧ Below (w9.alloc (.cells #[.int .u64 0, .int .u64 0, .bool false, .int .i64 0, .int .i64 0, .int .i64 0] 34)).heap.size (w9.alloc (.cells #[.int .u64 0, .int .u64 0, .bool false, .int .i64 0, .int .i64 0, .int .i64 0] 34)) w' := by
    have := HP.out.at' 1 0 (by decide) (by decide) H9.out (k := 0) rfl GY6.out
    rw [fx9] at this
    exact this
  have HC9 := Lib.hid C9
  clear C9
  go_wp2_with fail
  refine HC9.out.mono ?_
  rintro e' wa ⟨rfl, hba⟩
  have Ha := Lib.hid (H9.out.later hba)
  clear hba HC9
  have Ca := HP.out.in' 0 (by decide) Ha.out (k := 0) rfl GY6.out
  rw [fxa.1, fxa.2.1, fxa.2.2] at Ca
  have HCa := Lib.hid Ca
  clear Ca
  go_wp2_with fail
  refine HCa.out.mono ?_
  rintro e' wb ⟨rfl, hbb⟩
  have Hb := Lib.hid (Ha.out.later hbb)
  clear hbb HCa
  have Cb := HP.out.ot cA 1 (by decide) (by decide) Hb.out (k := 0) rfl GY6.out
  rw [fxb] at Cb
  have HCb := Lib.hid Cb
  clear Cb
  go_wp2_with fail
  refine HCb.out.mono ?_
  rintro e' wc ⟨rfl, hbc⟩
  have Hc := Lib.hid (Hb.out.later hbc)
  clear hbc HCb
  have Cc := HP.out.kl cA (by decide) Hc.out (k := 0) rfl GY6.out
  rw [fxc.1, fxc.2] at Cc
  have HCc := Lib.hid Cc
  clear Cc
  go_wp2_with fail
  refine HCc.out.mono ?_
  rintro e' wd ⟨rfl, hd⟩
  have Hd := Lib.hid (show Sp.Sep w wd [XI g Y7, locI [(r8, 34, enA n2)]] from hd)
  clear hd HCc
  have Cd := HP.out.kl cA (by decide) Hd.out (k := 0) rfl GY7.out
  rw [fxd.1, fxd.2] at Cd
  have HCd := Lib.hid Cd
  clear Cd
  go_wp2_with fail
  refine HCd.out.mono ?_
  rintro e' we ⟨rfl, he⟩
  have He := Lib.hid (show Sp.Sep w we [XI g Y7, locI [(r8, 34, enA n2)]] from he)
  clear he HCd
  have Ce := HP.out.go 0 (by decide) He.out (k := 0) rfl GY7.out
  rw [fxe.1, fxe.2] at Ce
  have HCe := Lib.hid Ce
  clear Ce
  go_wp2_with fail
  refine HCe.out.mono ?_
  rintro e' wf ⟨rfl, hf⟩
  have Hf := Lib.hid (show Sp.Sep w wf [XI g Y8, locI [(r8, 34, enA n2)]] from hf)
  clear hf HCe
  have Cf : Calls Try.prog 11 #[.pointer (some ⟨g, 0, none⟩), .string cA] wf fun e w' => e = .returned (.tuple #[.agg #[.int .u64 0, .int .u64 0, .bool false, .int .i64 0, .int .i64 0, .int .i64 0], .bool false]) ∧ Below wf.heap.size wf w' := by
    have := HP.out.ne cA (by decide) Hf.out (k := 0) rfl GY8.out
    rw [fxf] at this
    exact this
  have HCf := Lib.hid Cf
  clear Cf
  go_wp2_with fail
  refine HCf.out.mono ?_
  rintro e' wg ⟨rfl, hbg⟩
  have Hg := Lib.hid ((Hf.out.later hbg).alloc (.cells #[.int .u64 0, .int .u64 0, .bool false, .int .i64 0, .int .i64 0, .int .i64 0] 34))
  clear hbg HCf
  have hb8 := loc_blk Hg.out (k := 1) rfl
  have d0 : (wg.alloc (.cells #[.int .u64 0, .int .u64 0, .bool false, .int .i64 0, .int .i64 0, .int .i64 0] 34)).cell? ⟨r8, 0, none⟩ = some (.int .u64 2) := hb8.cell 0
  have d1 : (wg.alloc (.cells #[.int .u64 0, .int .u64 0, .bool false, .int .i64 0, .int .i64 0, .int .i64 0] 34)).cell? ⟨r8, 1, none⟩ = some (.int .u64 0) := hb8.cell 1
  have d2 : (wg.alloc (.cells #[.int .u64 0, .int .u64 0, .bool false, .int .i64 0, .int .i64 0, .int .i64 0] 34)).cell? ⟨r8, 2, none⟩ = some (.bool true) := hb8.cell 2
  have d3 : (wg.alloc (.cells #[.int .u64 0, .int .u64 0, .bool false, .int .i64 0, .int .i64 0, .int .i64 0] 34)).cell? ⟨r8, 3, none⟩ = some (.int .i64 32) := hb8.cell 3
  have d4 : (wg.alloc (.cells #[.int .u64 0, .int .u64 0, .bool false, .int .i64 0, .int .i64 0, .int .i64 0] 34)).cell? ⟨r8, 4, none⟩ = some (.int .i64 0) := hb8.cell 4
  have d5 : (wg.alloc (.cells #[.int .u64 0, .int .u64 0, .bool false, .int .i64 0, .int .i64 0, .int .i64 0] 34)).cell? ⟨r8, 5, none⟩ = some (.int .i64 1) := hb8.cell 5
  clear hb8
  have Cg := HP.out.lv Hg.out (k := 0) rfl GY8.out
  rw [fxg] at Cg
  have HCg := Lib.hid Cg
  clear Cg
  go_wp2_with fail
  refine HCg.out.mono ?_
  rintro e' wi ⟨rfl, hbi⟩
  have Hi := Lib.hid (Hg.out.later hbi)
  clear hbi HCg d0 d1 d2 d3 d4 d5
  have HCi := Lib.hid (HP.out.ids Hi.out (k := 0) rfl GY8.out)
  go_wp2_with fail
  refine HCi.out.mono ?_
  rintro e' wj ⟨v, rfl, hbj, hW⟩
  rw [fxg] at hW
  have Hj := Lib.hid ((Hi.out.later hbj).alloc (.cells #[.string cB] 9))
  have HW1 := Lib.hid (hW.later ((Below.refl _ _).alloc (Nat.le_refl _) (.cells #[.string cB] 9)))
  have HW2 : Hid (WR (wj.alloc (.cells #[.string cB] 9)) (.slice (some ⟨wj.heap.size, 0, none⟩) 1 1) [cB]) := Lib.hid ⟨⟨_, _, rfl⟩, fun i a hi => by
    have h0 : i = 0 := by have := (List.getElem?_eq_some_iff.1 hi).1; simpa using this
    subst h0
    injection hi with hi
    subst hi
    exact ⟨wj.heap.size, 0, 1, rfl, (Sp.Blk.new wj 9 #[.string cB]).cell 0⟩⟩
  have Cj := rwords_any HW1.out HW2.out (by decide) (by decide)
  rw [show decide ([cB] = [cB]) = true by simp] at Cj
  have HCj := Lib.hid Cj
  clear hbj HCi hW Cj
  go_wp2_with fail
  refine HCj.out.mono ?_
  rintro e' wk ⟨rfl, hbk⟩
  have Hk := Lib.hid (Hj.out.later hbk)
  clear hbk HCj
  have Ck := HP.out.ot cA 0 (by decide) (by decide) Hk.out (k := 0) rfl GY8.out
  rw [fxh] at Ck
  have HCk := Lib.hid Ck
  clear Ck
  go_wp2_with fail
  refine HCk.out.mono ?_
  rintro e' wl ⟨rfl, hbl⟩
  have Hl := Lib.hid (Hk.out.later hbl)
  clear hbl HCk
  go_wp2_with fail
  go_ret
  exact ⟨rfl, Hl.out.below⟩
end Go.Proofs.Ytjdkgkllgapgjaa.Ix
