/- For every two strings the statement CrcOver about crc.Sum and crc.Zeros returns true, and changes nothing. Conditions: none. -/
import Derived.Test.YthppijlfaoegpaaCrcS
import Derived.Test.YthppijlfaoegpaaClass
import Derived.Test.YthppijlfaoegpaaFrame
import Derived.Test.YthppijlfaoegpaaArr
import Derived.Deep.QuietTactic
import Derived.BigQuiet
import Derived.StillTailTactics
import Derived.WalkSmall
import Derived.Deep.DeepCutAuto
import Derived.Deep.RegionWith
import Derived.Deep.LoopGhost
import Derived.ProofKit
import Derived.OpenShut
import Derived.ShutString
import Derived.SizedLaws
namespace Go.Proofs.Ythppijlfaoegpaa.crcOver
open Go.ChangeShapes Go.WideShapes Go.ChangeAt Go.RowKit Go.Lib
open Go.ChangeMaps (open_string shut_string)
set_option linter.unusedVariables false

theorem own : ownKnob Try.prog.godebug = none := by kernel_rfl

/-- The first j bytes of both, laid over each other. -/
def xstr (s t : ByteArray) (j : Nat) : ByteArray := ⟨((List.zipWith (· ^^^ ·) s.data.toList t.data.toList).take j).toArray⟩
theorem xstr_list (s t : ByteArray) (j : Nat) : (xstr s t j).data.toList = (List.zipWith (· ^^^ ·) s.data.toList t.data.toList).take j := by simp [xstr]
theorem xstr_size (s t : ByteArray) (j : Nat) : (xstr s t j).size ≤ j := by rw [Go.Lib.size_eq, xstr_list]; exact List.length_take_le _ _
theorem conv1 (W : World) (x : Int) : (convert 30 9 (.slice (some ⟨W.heap.size, 0, none⟩) 1 1)).run Try.prog (W.alloc (.cells #[.int .u8 x] 5)).drew = .ok (.string (strOfNums [x])) (W.alloc (.cells #[.int .u8 x] 5)).drew := by
  refine run_convert_bytes_arg _ 30 5 Try.underlying30 Try.underlying5 W.heap.size 0 1 1 [x] rfl (fun i hi => ?_) 9 Try.underlying9
  obtain rfl : i = 0 := by omega
  simp [go_sem]
theorem data_get (s : ByteArray) (j : Nat) (h : j < s.size) : s.data.toList[j]? = some s[j] := by rw [List.getElem?_eq_getElem (by simpa using h)]; rfl
theorem zeros0_ge (w0 : World) (m : Nat) (c : Int) (w : World) (hm : Crc.more 0 (List.replicate (zn c) 0) = m) (hw : Below w0.heap.size w0 w) :
    Calls Try.prog 14 #[.int .u32 0, .int .i64 c] w fun e w' => e = .returned (.int .u32 (m : Int)) ∧ Below w0.heap.size w0 w' := zeros_ge w0 0 m c w (by omega) hm hw
theorem xstr_snoc (s t : ByteArray) (j : Nat) (h0 : j < s.size) (h1 : j < t.size) :
    xstr s t j ++ strOfNums [bits .xor .u8 ((s[j].toNat : Nat) : Int) ((t[j].toNat : Nat) : Int)] = xstr s t (j + 1) := by
  apply ByteArray.ext
  apply Array.toList_inj.1
  rw [ByteArray.data_append, Array.toList_append, xstr_list, xstr_list, strOfNums_data, u8_xor_nat _ _ (UInt8.toNat_lt _) (UInt8.toNat_lt _)]
  have g0 : s.data.toList[j]? = some s[j] := data_get s j h0
  have g1 : t.data.toList[j]? = some t[j] := data_get t j h1
  rw [List.take_add_one, List.getElem?_zipWith, g0, g1]
  simp only [Option.toList, List.map_cons, List.map_nil, Int.toNat_natCast]
  rw [← UInt8.toNat_xor, UInt8.ofNat_toNat]

set_option maxHeartbeats 4000000 in
set_option maxRecDepth 1000000 in
theorem c1 (a0 a1 : ByteArray) (w : World) (z0 : a0.size ≤ 140737488351232) (z1 : a1.size ≤ 140737488351232) (h1 : (a0.size : Int) ≤ a1.size) (h2 : (a0.size : Int) ≤ 300) (hn : a0.size ≤ 300) (hn0 : a0.size ≤ a0.size) (hn1 : a0.size ≤ a1.size)
    (S T : ByteArray) (m1 m2 m3 m4 d : Nat) (HS : Hid (a0.extract 0 a0.size = S)) (HT : Hid (a1.extract 0 a0.size = T)) (ZS : S.size ≤ maxLen) (ZT : T.size ≤ maxLen) (M1 : Hid (Crc.more 0 S.data.toList = m1)) (M2 : Hid (Crc.more 0 T.data.toList = m2)) (M3 : Hid (Crc.more 0 (List.replicate (zn ((a0.size : Nat) : Int)) 0) = m3)) (M4 : Hid (Crc.more 0 (xstr a0 a1 a0.size).data.toList = m4)) (E1 : Hid (bits .xor .u32 (m1 : Int) (m2 : Int) = (d : Int))) (E2 : Hid (bits .xor .u32 (d : Int) (m3 : Int) = (m4 : Int))) :
    Calls Try.prog 5 #[.string a0, .string a1] w fun e w' => e = .returned (.bool true) ∧ Below w.heap.size w w' := by
  go_enter Try.func5, Try.ntmps5
  go_wp2_with fail
  go_loopg [6, 7] a0.size (fun g z i wx => ∃ j : Nat, j + g = a0.size ∧ i = .int .i64 j ∧ z = .string (xstr a0 a1 j) ∧ Below w.heap.size w wx)
  case atStart => exact ⟨0, by omega, rfl, rfl, Below.refl _ _⟩
  case round =>
    obtain ⟨j, hj, rfl, rfl, hb⟩ := hrel
    cases gk with
    | zero =>
      obtain rfl : j = a0.size := by omega
      have hxz : (xstr a0 a1 a0.size).size ≤ maxLen := by have := xstr_size a0 a1 a0.size; unfold maxLen; omega
      go_wp2_with fail
      have e1 := E1.out
      have e2 := E2.out
      have eT := HT.out
      obtain rfl : a0 = S := by rw [← HS.out, ByteArray.extract_zero_size]
      have hne : Nonempty (In (fun W => Below w.heap.size w W)) := ⟨⟨w, Below.refl _ _⟩⟩
      refine region_class (fun W => Below w.heap.size w W) (by kernel_rfl) (by kernel_rfl) ⟨hb.os, hb.tape, hb.output, hb.size, hb.block⟩ ?_
      repeat (go_big_quiet_step (first
        | (go_at_call 10; with_reducible exact class_call _ (fun hi => sum_ge w m1 a0 _ ZS M1.out hi))
        | (go_at_call 10; with_reducible exact class_call _ (fun hi => sum_ge w m2 T _ ZT M2.out hi))
        | (go_at_call 10; with_reducible exact class_call _ (fun hi => sum_ge w m4 (xstr a0 a1 a0.size) _ hxz M4.out hi))
        | (go_at_call 14; with_reducible exact class_call _ (fun hi => zeros0_ge w m3 ((a0.size : Nat) : Int) _ M3.out hi))
        | (go_at_call 16; with_reducible exact class_call _ (fun hi => fixed_ge w _ hi))))
      refine wpQuiet_nil ?_
      rintro _ ⟨i, rfl⟩
      go_wp2_with fail
      go_ret
      exact ⟨rfl, i.h⟩
    | succ g =>
      have hlt : j < a0.size := by omega
      have hj0 : j < a0.size := by omega
      have hj1 : j < a1.size := by omega
      have hx := xstr_size a0 a1 j
      have CV := conv1 wr (bits .xor .u8 ((a0[j].toNat : Nat) : Int) ((a1[j].toNat : Nat) : Int))
      have hc : (strOfNums [bits .xor .u8 ((a0[j].toNat : Nat) : Int) ((a1[j].toNat : Nat) : Int)]).size = 1 := strOfNums_size _
      have XS := Lib.hid (xstr_snoc a0 a1 j hj0 hj1)
      generalize strOfNums [bits .xor .u8 ((a0[j].toNat : Nat) : Int) ((a1[j].toNat : Nat) : Int)] = c at *
      go_wp2_with fail
      go_region
      go_wp2_with fail
      go_roundg g
      case measure => omega
      case rel => exact ⟨j + 1, by omega, by go_num, by rw [XS.out], (hb.trans (((Below.refl _ _).alloc (Nat.le_refl _) _).mono hb.size)).drew⟩

set_option maxHeartbeats 4000000 in
set_option maxRecDepth 1000000 in
theorem c2 (a0 a1 : ByteArray) (w : World) (z0 : a0.size ≤ 140737488351232) (z1 : a1.size ≤ 140737488351232) (h1 : (a0.size : Int) ≤ a1.size) (h2 : ¬ (a0.size : Int) ≤ 300) (hn : 300 ≤ 300) (hn0 : 300 ≤ a0.size) (hn1 : 300 ≤ a1.size)
    (S T : ByteArray) (m1 m2 m3 m4 d : Nat) (HS : Hid (a0.extract 0 300 = S)) (HT : Hid (a1.extract 0 300 = T)) (ZS : S.size ≤ maxLen) (ZT : T.size ≤ maxLen) (M1 : Hid (Crc.more 0 S.data.toList = m1)) (M2 : Hid (Crc.more 0 T.data.toList = m2)) (M3 : Hid (Crc.more 0 (List.replicate (zn ((300 : Nat) : Int)) 0) = m3)) (M4 : Hid (Crc.more 0 (xstr a0 a1 300).data.toList = m4)) (E1 : Hid (bits .xor .u32 (m1 : Int) (m2 : Int) = (d : Int))) (E2 : Hid (bits .xor .u32 (d : Int) (m3 : Int) = (m4 : Int))) :
    Calls Try.prog 5 #[.string a0, .string a1] w fun e w' => e = .returned (.bool true) ∧ Below w.heap.size w w' := by
  go_enter Try.func5, Try.ntmps5
  go_wp2_with fail
  go_loopg [6, 7] 300 (fun g z i wx => ∃ j : Nat, j + g = 300 ∧ i = .int .i64 j ∧ z = .string (xstr a0 a1 j) ∧ Below w.heap.size w wx)
  case atStart => exact ⟨0, by omega, rfl, rfl, Below.refl _ _⟩
  case round =>
    obtain ⟨j, hj, rfl, rfl, hb⟩ := hrel
    cases gk with
    | zero =>
      obtain rfl : j = 300 := by omega
      have hxz : (xstr a0 a1 300).size ≤ maxLen := by have := xstr_size a0 a1 300; unfold maxLen; omega
      go_wp2_with fail
      have e1 := E1.out
      have e2 := E2.out
      have eT := HT.out
      have eS := HS.out
      have hne : Nonempty (In (fun W => Below w.heap.size w W)) := ⟨⟨w, Below.refl _ _⟩⟩
      refine region_class (fun W => Below w.heap.size w W) (by kernel_rfl) (by kernel_rfl) ⟨hb.os, hb.tape, hb.output, hb.size, hb.block⟩ ?_
      repeat (go_big_quiet_step (first
        | (go_at_call 10; with_reducible exact class_call _ (fun hi => sum_ge w m1 S _ ZS M1.out hi))
        | (go_at_call 10; with_reducible exact class_call _ (fun hi => sum_ge w m2 T _ ZT M2.out hi))
        | (go_at_call 10; with_reducible exact class_call _ (fun hi => sum_ge w m4 (xstr a0 a1 300) _ hxz M4.out hi))
        | (go_at_call 14; with_reducible exact class_call _ (fun hi => zeros0_ge w m3 ((300 : Nat) : Int) _ M3.out hi))
        | (go_at_call 16; with_reducible exact class_call _ (fun hi => fixed_ge w _ hi))))
      refine wpQuiet_nil ?_
      rintro _ ⟨i, rfl⟩
      go_wp2_with fail
      go_ret
      exact ⟨rfl, i.h⟩
    | succ g =>
      have hlt : j < 300 := by omega
      have hj0 : j < a0.size := by omega
      have hj1 : j < a1.size := by omega
      have hx := xstr_size a0 a1 j
      have CV := conv1 wr (bits .xor .u8 ((a0[j].toNat : Nat) : Int) ((a1[j].toNat : Nat) : Int))
      have hc : (strOfNums [bits .xor .u8 ((a0[j].toNat : Nat) : Int) ((a1[j].toNat : Nat) : Int)]).size = 1 := strOfNums_size _
      have XS := Lib.hid (xstr_snoc a0 a1 j hj0 hj1)
      generalize strOfNums [bits .xor .u8 ((a0[j].toNat : Nat) : Int) ((a1[j].toNat : Nat) : Int)] = c at *
      go_wp2_with fail
      go_region
      go_wp2_with fail
      go_roundg g
      case measure => omega
      case rel => exact ⟨j + 1, by omega, by go_num, by rw [XS.out], (hb.trans (((Below.refl _ _).alloc (Nat.le_refl _) _).mono hb.size)).drew⟩

set_option maxHeartbeats 4000000 in
set_option maxRecDepth 1000000 in
theorem c3 (a0 a1 : ByteArray) (w : World) (z0 : a0.size ≤ 140737488351232) (z1 : a1.size ≤ 140737488351232) (h1 : ¬ (a0.size : Int) ≤ a1.size) (h2 : (a1.size : Int) ≤ 300) (hn : a1.size ≤ 300) (hn0 : a1.size ≤ a0.size) (hn1 : a1.size ≤ a1.size)
    (S T : ByteArray) (m1 m2 m3 m4 d : Nat) (HS : Hid (a0.extract 0 a1.size = S)) (HT : Hid (a1.extract 0 a1.size = T)) (ZS : S.size ≤ maxLen) (ZT : T.size ≤ maxLen) (M1 : Hid (Crc.more 0 S.data.toList = m1)) (M2 : Hid (Crc.more 0 T.data.toList = m2)) (M3 : Hid (Crc.more 0 (List.replicate (zn ((a1.size : Nat) : Int)) 0) = m3)) (M4 : Hid (Crc.more 0 (xstr a0 a1 a1.size).data.toList = m4)) (E1 : Hid (bits .xor .u32 (m1 : Int) (m2 : Int) = (d : Int))) (E2 : Hid (bits .xor .u32 (d : Int) (m3 : Int) = (m4 : Int))) :
    Calls Try.prog 5 #[.string a0, .string a1] w fun e w' => e = .returned (.bool true) ∧ Below w.heap.size w w' := by
  go_enter Try.func5, Try.ntmps5
  go_wp2_with fail
  go_loopg [6, 7] a1.size (fun g z i wx => ∃ j : Nat, j + g = a1.size ∧ i = .int .i64 j ∧ z = .string (xstr a0 a1 j) ∧ Below w.heap.size w wx)
  case atStart => exact ⟨0, by omega, rfl, rfl, Below.refl _ _⟩
  case round =>
    obtain ⟨j, hj, rfl, rfl, hb⟩ := hrel
    cases gk with
    | zero =>
      obtain rfl : j = a1.size := by omega
      have hxz : (xstr a0 a1 a1.size).size ≤ maxLen := by have := xstr_size a0 a1 a1.size; unfold maxLen; omega
      go_wp2_with fail
      have e1 := E1.out
      have e2 := E2.out
      have eS := HS.out
      obtain rfl : a1 = T := by rw [← HT.out, ByteArray.extract_zero_size]
      have hne : Nonempty (In (fun W => Below w.heap.size w W)) := ⟨⟨w, Below.refl _ _⟩⟩
      refine region_class (fun W => Below w.heap.size w W) (by kernel_rfl) (by kernel_rfl) ⟨hb.os, hb.tape, hb.output, hb.size, hb.block⟩ ?_
      repeat (go_big_quiet_step (first
        | (go_at_call 10; with_reducible exact class_call _ (fun hi => sum_ge w m1 S _ ZS M1.out hi))
        | (go_at_call 10; with_reducible exact class_call _ (fun hi => sum_ge w m2 a1 _ ZT M2.out hi))
        | (go_at_call 10; with_reducible exact class_call _ (fun hi => sum_ge w m4 (xstr a0 a1 a1.size) _ hxz M4.out hi))
        | (go_at_call 14; with_reducible exact class_call _ (fun hi => zeros0_ge w m3 ((a1.size : Nat) : Int) _ M3.out hi))
        | (go_at_call 16; with_reducible exact class_call _ (fun hi => fixed_ge w _ hi))))
      refine wpQuiet_nil ?_
      rintro _ ⟨i, rfl⟩
      go_wp2_with fail
      go_ret
      exact ⟨rfl, i.h⟩
    | succ g =>
      have hlt : j < a1.size := by omega
      have hj0 : j < a0.size := by omega
      have hj1 : j < a1.size := by omega
      have hx := xstr_size a0 a1 j
      have CV := conv1 wr (bits .xor .u8 ((a0[j].toNat : Nat) : Int) ((a1[j].toNat : Nat) : Int))
      have hc : (strOfNums [bits .xor .u8 ((a0[j].toNat : Nat) : Int) ((a1[j].toNat : Nat) : Int)]).size = 1 := strOfNums_size _
      have XS := Lib.hid (xstr_snoc a0 a1 j hj0 hj1)
      generalize strOfNums [bits .xor .u8 ((a0[j].toNat : Nat) : Int) ((a1[j].toNat : Nat) : Int)] = c at *
      go_wp2_with fail
      go_region
      go_wp2_with fail
      go_roundg g
      case measure => omega
      case rel => exact ⟨j + 1, by omega, by go_num, by rw [XS.out], (hb.trans (((Below.refl _ _).alloc (Nat.le_refl _) _).mono hb.size)).drew⟩

set_option maxHeartbeats 4000000 in
set_option maxRecDepth 1000000 in
theorem c4 (a0 a1 : ByteArray) (w : World) (z0 : a0.size ≤ 140737488351232) (z1 : a1.size ≤ 140737488351232) (h1 : ¬ (a0.size : Int) ≤ a1.size) (h2 : ¬ (a1.size : Int) ≤ 300) (hn : 300 ≤ 300) (hn0 : 300 ≤ a0.size) (hn1 : 300 ≤ a1.size)
    (S T : ByteArray) (m1 m2 m3 m4 d : Nat) (HS : Hid (a0.extract 0 300 = S)) (HT : Hid (a1.extract 0 300 = T)) (ZS : S.size ≤ maxLen) (ZT : T.size ≤ maxLen) (M1 : Hid (Crc.more 0 S.data.toList = m1)) (M2 : Hid (Crc.more 0 T.data.toList = m2)) (M3 : Hid (Crc.more 0 (List.replicate (zn ((300 : Nat) : Int)) 0) = m3)) (M4 : Hid (Crc.more 0 (xstr a0 a1 300).data.toList = m4)) (E1 : Hid (bits .xor .u32 (m1 : Int) (m2 : Int) = (d : Int))) (E2 : Hid (bits .xor .u32 (d : Int) (m3 : Int) = (m4 : Int))) :
    Calls Try.prog 5 #[.string a0, .string a1] w fun e w' => e = .returned (.bool true) ∧ Below w.heap.size w w' := by
  go_enter Try.func5, Try.ntmps5
  go_wp2_with fail
  go_loopg [6, 7] 300 (fun g z i wx => ∃ j : Nat, j + g = 300 ∧ i = .int .i64 j ∧ z = .string (xstr a0 a1 j) ∧ Below w.heap.size w wx)
  case atStart => exact ⟨0, by omega, rfl, rfl, Below.refl _ _⟩
  case round =>
    obtain ⟨j, hj, rfl, rfl, hb⟩ := hrel
    cases gk with
    | zero =>
      obtain rfl : j = 300 := by omega
      have hxz : (xstr a0 a1 300).size ≤ maxLen := by have := xstr_size a0 a1 300; unfold maxLen; omega
      go_wp2_with fail
      have e1 := E1.out
      have e2 := E2.out
      have eT := HT.out
      have eS := HS.out
      have hne : Nonempty (In (fun W => Below w.heap.size w W)) := ⟨⟨w, Below.refl _ _⟩⟩
      refine region_class (fun W => Below w.heap.size w W) (by kernel_rfl) (by kernel_rfl) ⟨hb.os, hb.tape, hb.output, hb.size, hb.block⟩ ?_
      repeat (go_big_quiet_step (first
        | (go_at_call 10; with_reducible exact class_call _ (fun hi => sum_ge w m1 S _ ZS M1.out hi))
        | (go_at_call 10; with_reducible exact class_call _ (fun hi => sum_ge w m2 T _ ZT M2.out hi))
        | (go_at_call 10; with_reducible exact class_call _ (fun hi => sum_ge w m4 (xstr a0 a1 300) _ hxz M4.out hi))
        | (go_at_call 14; with_reducible exact class_call _ (fun hi => zeros0_ge w m3 ((300 : Nat) : Int) _ M3.out hi))
        | (go_at_call 16; with_reducible exact class_call _ (fun hi => fixed_ge w _ hi))))
      refine wpQuiet_nil ?_
      rintro _ ⟨i, rfl⟩
      go_wp2_with fail
      go_ret
      exact ⟨rfl, i.h⟩
    | succ g =>
      have hlt : j < 300 := by omega
      have hj0 : j < a0.size := by omega
      have hj1 : j < a1.size := by omega
      have hx := xstr_size a0 a1 j
      have CV := conv1 wr (bits .xor .u8 ((a0[j].toNat : Nat) : Int) ((a1[j].toNat : Nat) : Int))
      have hc : (strOfNums [bits .xor .u8 ((a0[j].toNat : Nat) : Int) ((a1[j].toNat : Nat) : Int)]).size = 1 := strOfNums_size _
      have XS := Lib.hid (xstr_snoc a0 a1 j hj0 hj1)
      generalize strOfNums [bits .xor .u8 ((a0[j].toNat : Nat) : Int) ((a1[j].toNat : Nat) : Int)] = c at *
      go_wp2_with fail
      go_region
      go_wp2_with fail
      go_roundg g
      case measure => omega
      case rel => exact ⟨j + 1, by omega, by go_num, by rw [XS.out], (hb.trans (((Below.refl _ _).alloc (Nat.le_refl _) _).mono hb.size)).drew⟩

theorem close (a0 a1 : ByteArray) (n : Nat) (hn : n ≤ 300) (hn0 : n ≤ a0.size) (hn1 : n ≤ a1.size) :
    ∃ d : Nat, bits .xor .u32 ((Crc.more 0 (a0.extract 0 n).data.toList : Nat) : Int) ((Crc.more 0 (a1.extract 0 n).data.toList : Nat) : Int) = (d : Int) ∧
      bits .xor .u32 (d : Int) ((Crc.more 0 (List.replicate (zn (n : Int)) 0) : Nat) : Int) = ((Crc.more 0 (xstr a0 a1 n).data.toList : Nat) : Int) := by
  have l1 := Crc.more_lt (s := 0) (a0.extract 0 n).data.toList (by omega)
  have l2 := Crc.more_lt (s := 0) (a1.extract 0 n).data.toList (by omega)
  have l3 := Crc.more_lt (s := 0) (List.replicate (zn (n : Int)) 0) (by omega)
  refine ⟨_, u32_xor_nat _ _ l1 l2, ?_⟩
  rw [u32_xor_nat _ _ (Crc.xor_lt l1 l2) l3]
  have zz : zn (n : Int) = n := by have := zn_in (c := (n : Int)) (by omega) (by omega); omega
  have c0 : (a0.extract 0 n).data.toList = a0.data.toList.take n := by rw [Go.Lib.extract_data, List.drop_zero, Nat.sub_zero]
  have c1 : (a1.extract 0 n).data.toList = a1.data.toList.take n := by rw [Go.Lib.extract_data, List.drop_zero, Nat.sub_zero]
  have n0 : (a0.data.toList.take n).length = n := by rw [List.length_take, ← Go.Lib.size_eq]; omega
  have n1 : (a1.data.toList.take n).length = n := by rw [List.length_take, ← Go.Lib.size_eq]; omega
  have ov := Crc.more_over (a0.data.toList.take n) (a1.data.toList.take n) (by rw [n0, n1])
  rw [n0] at ov
  rw [zz, c0, c1, ov, xstr_list, List.take_zipWith]

set_option maxHeartbeats 1000000 in
theorem walk (a0 a1 : ByteArray) (w0 : a0.size ≤ maxLen) (w1 : a1.size ≤ maxLen) (z0 : a0.size ≤ 140737488351232) (z1 : a1.size ≤ 140737488351232) (w : World) :
    Calls Try.prog 5 #[.string a0, .string a1] w fun e w' => e = .returned (.bool true) ∧ Below w.heap.size w w' := by
  have zx : ∀ (s : ByteArray) (n : Nat), n ≤ 300 → (s.extract 0 n).size ≤ maxLen := by
    intro s n h; rw [ByteArray.size_extract]; unfold maxLen; omega
  by_cases h1 : (a0.size : Int) ≤ a1.size
  · by_cases h2 : (a0.size : Int) ≤ 300
    · obtain ⟨d, e1, e2⟩ := close a0 a1 a0.size (by omega) (by omega) (by omega)
      exact c1 a0 a1 w z0 z1 h1 h2 (by omega) (by omega) (by omega) _ _ _ _ _ _ d (Lib.hid rfl) (Lib.hid rfl) (zx _ _ (by omega)) (zx _ _ (by omega)) (Lib.hid rfl) (Lib.hid rfl) (Lib.hid rfl) (Lib.hid rfl) (Lib.hid e1) (Lib.hid e2)
    · obtain ⟨d, e1, e2⟩ := close a0 a1 300 (by omega) (by omega) (by omega)
      exact c2 a0 a1 w z0 z1 h1 h2 (by omega) (by omega) (by omega) _ _ _ _ _ _ d (Lib.hid rfl) (Lib.hid rfl) (zx _ _ (by omega)) (zx _ _ (by omega)) (Lib.hid rfl) (Lib.hid rfl) (Lib.hid rfl) (Lib.hid rfl) (Lib.hid e1) (Lib.hid e2)
  · by_cases h2 : (a1.size : Int) ≤ 300
    · obtain ⟨d, e1, e2⟩ := close a0 a1 a1.size (by omega) (by omega) (by omega)
      exact c3 a0 a1 w z0 z1 h1 h2 (by omega) (by omega) (by omega) _ _ _ _ _ _ d (Lib.hid rfl) (Lib.hid rfl) (zx _ _ (by omega)) (zx _ _ (by omega)) (Lib.hid rfl) (Lib.hid rfl) (Lib.hid rfl) (Lib.hid rfl) (Lib.hid e1) (Lib.hid e2)
    · obtain ⟨d, e1, e2⟩ := close a0 a1 300 (by omega) (by omega) (by omega)
      exact c4 a0 a1 w z0 z1 h1 h2 (by omega) (by omega) (by omega) _ _ _ _ _ _ d (Lib.hid rfl) (Lib.hid rfl) (zx _ _ (by omega)) (zx _ _ (by omega)) (Lib.hid rfl) (Lib.hid rfl) (Lib.hid rfl) (Lib.hid rfl) (Lib.hid e1) (Lib.hid e2)

set_option maxRecDepth 100000 in
theorem lifted (os : Os) (started : os.Started) (H : Type) (enc : TypeId × Value → H) :
    ReturnsInHanded {} Try.checked os 5 .any (Rows.crcOverSpec.pre6 enc Try.prog Try.f5 Rows.crcOverRow.domain false) (Rows.crcOverSpec.post enc Try.prog Try.f5 false true false false) := by
  refine returnsInHanded_of_change_sized (C := Try.checked) own started (by kernel_rfl) Try.func5
    (ChangeSpec.witness6 (enc := enc) (C := Try.checked) false ⟨#[], #[.string ByteArray.empty, .string ByteArray.empty], []⟩ 8 (by kernel_rfl) (by kernel_rfl) (by kernel_rfl) (by kernel_rfl)) ?_
  intro W base args ds gs before hval0 hW hcnd hsz0 _
  have hsz : (DataW.weightsEach Try.prog (Try.f5.params.toList ++ Rows.crcOverSpec.plain.varTypes Try.prog) (ds ++ gs)).all (· ≤ reachBytes) = true := hsz0
  clear hsz0
  have hval : ∀ (j : Nat) t v, Try.f5.params[j]? = some t → args[j]? = some v → Value.okWide Try.prog W .any base t v := hval0
  have hW' := hW
  obtain ⟨p, q, hA0, hV, rfl, hfz, hnd⟩ := hW
  have hA : DataW.TrodAll enc Try.prog W 0 (fun _ => true) true Try.f5.params.toList args.toList ds p := hA0
  rw [Try.params5] at hA hval hsz
  obtain ⟨v0, vs0, d0, ds0, p0, q0, hargs, rfl, rfl, h0, r0⟩ := trodAll_cons hA
  obtain ⟨v1, vs1, d1, ds1, p1, q1, rfl, rfl, rfl, h1, r1⟩ := trodAll_cons r0
  obtain ⟨rfl, rfl, rfl⟩ := trodAll_nil r1
  obtain rfl : args = #[v0, v1] := by cases args; simp_all
  obtain ⟨rfl, rfl⟩ := trodVars_none hV
  obtain ⟨a0, rfl, rfl, rfl, w0⟩ := open_string Try.underlying9 (hval 0 9 v0 rfl rfl) h0
  obtain ⟨a1, rfl, rfl, rfl, w1⟩ := open_string Try.underlying9 (hval 1 9 v1 rfl rfl) h1
  have z0 : a0.size ≤ 140737488351232 := by
    have := sized_string hsz (j := 0) (t := 9) rfl rfl
    rw [Go.Lib.size_eq]; exact this
  have z1 : a1.size ≤ 140737488351232 := by
    have := sized_string hsz (j := 1) (t := 9) rfl rfl
    rw [Go.Lib.size_eq]; exact this
  clear hA0 hval0
  simp only [List.append_nil] at hW'
  refine (walk a0 a1 w0 w1 z0 z1 W).mono fun e W' ⟨he, hg⟩ => ?_
  subst he
  exact ⟨_, rfl, post_plain hW' (fun _ _ _ => (trodAll_cons_mk (shut_bool Try.underlying4 _) trodAll_mk0)) (fun sp => (trodAll_cons_mk (shut_string Try.underlying9 w0) (trodAll_cons_mk (shut_string Try.underlying9 w1) trodAll_mk0))) (fun _ => rfl) hg (ok_one (by kernel_rfl) rfl (okWide_bool_mk Try.underlying4 _))⟩

theorem over : Rows.crcOverRow.holds Try.pinned (OpenSpec.ofChange Rows.crcOverSpec) :=
  OpenClaim.holds_of_wide 5 Try.f5 rfl rfl rfl rfl rfl rfl rfl ⟨rfl, rfl, rfl, rfl, rfl⟩ rfl rfl rfl rfl rfl (by kernel_rfl) Try.func5 (by kernel_rfl)
    (of_decide_eq_true (by kernel_rfl)) (by unfold Func.isWrapper; first | (rw [if_pos (by decide +kernel)]; kernel_rfl) | (rw [if_neg (by decide +kernel)]; exact ⟨rfl, rfl⟩))
    (fun os started H enc _ => lifted os started H enc)

theorem proved : Rows.CrcOverSaid := over
#print axioms proved
end Go.Proofs.Ythppijlfaoegpaa.crcOver
