/- For every string, every place and every four bytes the statement CrcBurst about crc.Sum returns true, and changes nothing. Conditions: none. -/
import Derived.Test.YthppijlfaoegpaaCrcS
import Derived.Test.YthppijlfaoegpaaClass
import Derived.Test.YthppijlfaoegpaaFrame
import Derived.Test.YthppijlfaoegpaaArr
import Derived.Deep.QuietTactic
import Derived.BigQuiet
import Derived.StillTailTactics
import Derived.WalkSmall
import Derived.Deep.DeepCutAuto
import Derived.Deep.RegionWith
import Derived.Deep.LoopGhost
import Derived.ProofKit
import Derived.OpenShut
import Derived.ShutString
import Derived.SizedLaws
namespace Go.Proofs.Ythppijlfaoegpaa.crcBurst
open Go.ChangeShapes Go.WideShapes Go.ChangeAt Go.RowKit Go.Lib
open Go.ChangeMaps (open_string shut_string)
set_option linter.unusedVariables false

theorem own : ownKnob Try.prog.godebug = none := by kernel_rfl

/-- What stays while the bytes are written: the box of the four, old memory, and all bytes but those from i0 on, four of them. -/
structure BInv (w : World) (xs : List Int) (b i0 : Nat) (l0 l : List UInt8) (W : World) : Prop where
  row : Row b l W
  len : l.length = l0.length
  tk : l.take i0 = l0.take i0
  dr : l.drop (i0 + 4) = l0.drop (i0 + 4)
  old : Below w.heap.size w W
  box : ∀ j, j < 4 → W.cell? ⟨w.heap.size, j, none⟩ = some (.int .u8 (xs.getD j 0))
theorem BInv.step {w : World} {xs : List Int} {b i0 : Nat} {l0 l : List UInt8} {W : World} (h : BInv w xs b i0 l0 l W) (hb : w.heap.size < b) (k : Nat) (hk : k < 4) (hin : i0 + k < l0.length) (y : Nat) (hy : y < 256) :
    BInv w xs b i0 l0 (l.set (i0 + k) (l.getD (i0 + k) 0 ^^^ UInt8.ofNat y)) (W.setCell ⟨b, i0 + k, none⟩ (.int .u8 (((l.getD (i0 + k) 0).toNat ^^^ y : Nat) : Int))).drew := by
  have e8 : (l.getD (i0 + k) 0 ^^^ UInt8.ofNat y).toNat = (l.getD (i0 + k) 0).toNat ^^^ y := by
    rw [UInt8.toNat_xor, UInt8.toNat_ofNat_of_lt' (show y < 256 from hy)]
  have hr := h.row.set (i0 + k) (by rw [h.len]; exact hin) (l.getD (i0 + k) 0 ^^^ UInt8.ofNat y)
  rw [e8] at hr
  refine ⟨hr.drew, by rw [List.length_set, h.len], ?_, ?_, (h.old.setCell (Nat.le_of_lt hb) _).drew, fun j hj => ?_⟩
  · rw [List.take_set_of_le (by omega), h.tk]
  · rw [List.drop_set_of_lt (by omega), h.dr]
  · show (W.setCell ⟨b, i0 + k, none⟩ _).cell? ⟨w.heap.size, j, none⟩ = _
    rw [World.cell?_setCell_other W _ _ _ (by intro e; injection e with e1; omega), h.box j hj]
/-- And behind that, while the calls go. -/
structure BC (w : World) (b : Nat) (l : List UInt8) (W : World) : Prop where
  row : Row b l W
  old : Below w.heap.size w W
theorem BC.step {w : World} {b : Nat} {l : List UInt8} {W W' : World} (h : BC w b l W) (hb : Below W.heap.size W W') : BC w b l W' := ⟨h.row.below hb, h.old.trans (hb.mono h.old.size)⟩
theorem sum_bc (w : World) (b : Nat) (l : List UInt8) (m : Nat) (s : ByteArray) (W : World) (hs : s.size ≤ maxLen) (hm : Crc.more 0 s.data.toList = m) (hi : BC w b l W) :
    Calls Try.prog 10 #[.string s] W fun e W' => e = .returned (.int .u32 (m : Int)) ∧ BC w b l W' := by
  subst hm
  exact (sum_any s W hs).mono fun _ _ ⟨he, hb⟩ => ⟨he, hi.step hb⟩
theorem fixed_bc (w : World) (b : Nat) (l : List UInt8) (W : World) (hi : BC w b l W) :
    Calls Try.prog 16 #[] W fun e W' => e = .returned (.bool true) ∧ BC w b l W' :=
  (fixed_any W).mono fun _ _ ⟨he, hb⟩ => ⟨he, hi.step hb⟩

set_option maxHeartbeats 4000000 in
set_option maxRecDepth 1000000 in
theorem short (a0 : ByteArray) (at_ x0 x1 x2 x3 : Int) (i0 b m2 cap : Nat) (w W1 : World) (z0 : a0.size ≤ 140737488351232) (ha : (a0.size : Int) ≤ 300) (b0 : 0 ≤ at_) (b1 : at_ < 65536) (hp : 0 < a0.size) (hL : a0.size ≤ 300)
    (hi : i0 < a0.size) (hidx : at_ % (a0.size : Int) = (i0 : Int)) (hbb : Hid (b = w.heap.size + 1)) (hl0 : a0.data.toList.length = a0.size) (hx : Hid (∀ j, j < 4 → ∃ y : Nat, y < 256 ∧ [x0, x1, x2, x3].getD j 0 = (y : Int)))
    (hconv : (convert 9 30 (.string a0)).run Try.prog (w.alloc (.cells #[.int .u8 x0, .int .u8 x1, .int .u8 x2, .int .u8 x3] 36)) = .ok (.slice (some ⟨b, 0, none⟩) a0.size cap) W1)
    (hI : Hid (BInv w [x0, x1, x2, x3] b i0 a0.data.toList a0.data.toList W1)) (zs : a0.size ≤ maxLen) (M2 : Hid (Crc.more 0 a0.data.toList = m2)) :
    Calls Try.prog 9 #[.string a0, .int .u16 at_, .agg #[.int .u8 x0, .int .u8 x1, .int .u8 x2, .int .u8 x3]] w fun e w' => e = .returned (.bool true) ∧ Below w.heap.size w w' := by
  have e0 : ((a0.size : Int) == 0) = false := by rw [beq_eq_false_iff_ne]; omega
  have hp' : 0 < (a0.size : Int) := by omega
  have HL0 := Lib.hid hl0
  clear hl0
  go_enter Try.func9, Try.ntmps9
  go_wp2_with fail
  (try rw [hidx])
  clear hconv hidx
  have hl0 := HL0.out
  clear HL0
  have HL := Lib.hid hl0
  clear hl0
  go_loopg [9] 4 (fun g z wx => ∃ (k : Nat) (l : List UInt8), k + g = 4 ∧ z = .int .i64 k ∧ BInv w [x0, x1, x2, x3] b i0 a0.data.toList l wx)
  case atStart => exact ⟨0, _, by omega, rfl, hI.out⟩
  case round =>
    obtain ⟨k, l, hk, rfl, hB⟩ := hrel
    cases gk with
    | zero =>
      obtain rfl : k = 4 := by omega
      go_wp2_with fail
      have hl0 := HL.out
      have hw : BC w b l wr := ⟨hB.row, hB.old⟩
      have hlen : l.length = a0.size := by rw [hB.len, hl0]
      have F : ∀ i : In (BC w b l), (convert 30 9 (.slice (some ⟨b, 0, none⟩) a0.size cap)).run Try.prog i.W = .ok (.string ⟨l.toArray⟩) i.W := by
        intro i; have := bytes_back (cap := cap) i.h.row; rw [hlen] at this; exact this
      have zs' : (⟨l.toArray⟩ : ByteArray).size ≤ maxLen := by rw [Go.Lib.size_eq, List.toList_toArray, hlen]; unfold maxLen; omega
      have TL : (⟨l.toArray⟩ : ByteArray).data.toList = l := List.toList_toArray
      obtain ⟨S', HS'⟩ : ∃ S', Hid ((⟨l.toArray⟩ : ByteArray) = S') := ⟨_, rfl⟩
      rw [HS'.out] at F zs' TL
      obtain ⟨m1, M1⟩ : ∃ m, Hid (Crc.more 0 S'.data.toList = m) := ⟨_, rfl⟩
      have hne : Nonempty (In (BC w b l)) := ⟨⟨_, hw⟩⟩
      have key : a0 = S' ∨ (¬ S' = a0 ∧ ((m1 : Int) == (m2 : Int)) = false) := by
        by_cases e : S' = a0
        · exact .inl e.symm
        · refine .inr ⟨e, ?_⟩
          rw [beq_eq_false_iff_ne]
          intro h
          refine e ?_
          apply ByteArray.ext
          apply Array.toList_inj.1
          rw [TL]
          refine burst_eq a0.data.toList l i0 ?_ hB.tk hB.dr ?_
          · exact hB.len
          · rw [← TL, M1.out, M2.out]; omega
      clear HS' TL
      rcases key with rfl | ⟨e1, e2⟩
      · have hm : m1 = m2 := by rw [← M1.out, M2.out]
        subst hm
        refine region_class (BC w b l) (by kernel_rfl) (by kernel_rfl) ⟨⟨hw.row.cell, hw.row.free, hw.row.there⟩, ⟨hw.old.os, hw.old.tape, hw.old.output, hw.old.size, hw.old.block⟩⟩ ?_
        repeat (go_big_quiet_step (first
          | (go_at_call 10; with_reducible exact class_call _ (fun hi => sum_bc w b l m1 a0 _ zs' M1.out hi))
          | (go_at_call 16; with_reducible exact class_call _ (fun hi => fixed_bc w b l _ hi))))
        refine wpQuiet_nil ?_
        rintro _ ⟨i, rfl⟩
        go_wp2_with fail
        go_ret
        exact ⟨rfl, i.h.old⟩
      · have e3 : (S'.toList == a0.toList) = false := by
          rw [beq_eq_false_iff_ne]
          intro h
          rw [Go.Lib.toList_data, Go.Lib.toList_data] at h
          exact e1 (Go.WideShapes.bytes_inj h)
        refine region_class (BC w b l) (by kernel_rfl) (by kernel_rfl) ⟨⟨hw.row.cell, hw.row.free, hw.row.there⟩, ⟨hw.old.os, hw.old.tape, hw.old.output, hw.old.size, hw.old.block⟩⟩ ?_
        repeat (go_big_quiet_step (first
          | (go_at_call 10; with_reducible exact class_call _ (fun hi => sum_bc w b l m1 S' _ zs' M1.out hi))
          | (go_at_call 10; with_reducible exact class_call _ (fun hi => sum_bc w b l m2 a0 _ zs M2.out hi))
          | (go_at_call 16; with_reducible exact class_call _ (fun hi => fixed_bc w b l _ hi))))
        refine wpQuiet_nil ?_
        rintro _ ⟨i, rfl⟩
        go_wp2_with fail
        go_ret
        exact ⟨rfl, i.h.old⟩
    | succ g =>
      have hk4 : k < 4 := by omega
      by_cases hin : i0 + k < a0.size
      · obtain ⟨y, hy, ey⟩ := hx.out k hk4
        have hnext := Lib.hid (hB.step (by rw [hbb.out]; omega) k hk4 (by rw [HL.out]; exact hin) y hy)
        have hll : i0 + k < l.length := by rw [hB.len, HL.out]; exact hin
        have cell := hB.row.cell (i0 + k) hll
        have free := hB.row.free (i0 + k) hll
        have box := hB.box k hk4
        rw [ey] at box
        have X8 := u8_xor_nat (l.getD (i0 + k) 0).toNat y (UInt8.toNat_lt _) hy
        have hint : (i0 : Int) + (k : Int) < (a0.size : Int) := by omega
        clear ey hy
        generalize (l.getD (i0 + k) 0).toNat ^^^ y = d at *
        generalize (l.getD (i0 + k) 0).toNat = c at *
        go_wp2_with fail
        go_region
        go_wp2_with fail
        go_roundg g
        case measure => omega
        case rel => exact ⟨k + 1, _, by omega, by go_num, hnext.out⟩
      · have hout : ¬ (i0 : Int) + (k : Int) < (a0.size : Int) := by omega
        go_wp2_with fail
        have hl0 := HL.out
        have hw : BC w b l wr := ⟨hB.row, hB.old⟩
        have hlen : l.length = a0.size := by rw [hB.len, hl0]
        have F : ∀ i : In (BC w b l), (convert 30 9 (.slice (some ⟨b, 0, none⟩) a0.size cap)).run Try.prog i.W = .ok (.string ⟨l.toArray⟩) i.W := by
          intro i; have := bytes_back (cap := cap) i.h.row; rw [hlen] at this; exact this
        have zs' : (⟨l.toArray⟩ : ByteArray).size ≤ maxLen := by rw [Go.Lib.size_eq, List.toList_toArray, hlen]; unfold maxLen; omega
        have TL : (⟨l.toArray⟩ : ByteArray).data.toList = l := List.toList_toArray
        obtain ⟨S', HS'⟩ : ∃ S', Hid ((⟨l.toArray⟩ : ByteArray) = S') := ⟨_, rfl⟩
        rw [HS'.out] at F zs' TL
        obtain ⟨m1, M1⟩ : ∃ m, Hid (Crc.more 0 S'.data.toList = m) := ⟨_, rfl⟩
        have hne : Nonempty (In (BC w b l)) := ⟨⟨_, hw⟩⟩
        have key : a0 = S' ∨ (¬ S' = a0 ∧ ((m1 : Int) == (m2 : Int)) = false) := by
          by_cases e : S' = a0
          · exact .inl e.symm
          · refine .inr ⟨e, ?_⟩
            rw [beq_eq_false_iff_ne]
            intro h
            refine e ?_
            apply ByteArray.ext
            apply Array.toList_inj.1
            rw [TL]
            refine burst_eq a0.data.toList l i0 ?_ hB.tk hB.dr ?_
            · exact hB.len
            · rw [← TL, M1.out, M2.out]; omega
        clear HS' TL
        rcases key with rfl | ⟨e1, e2⟩
        · have hm : m1 = m2 := by rw [← M1.out, M2.out]
          subst hm
          refine region_class (BC w b l) (by kernel_rfl) (by kernel_rfl) ⟨⟨hw.row.cell, hw.row.free, hw.row.there⟩, ⟨hw.old.os, hw.old.tape, hw.old.output, hw.old.size, hw.old.block⟩⟩ ?_
          repeat (go_big_quiet_step (first
            | (go_at_call 10; with_reducible exact class_call _ (fun hi => sum_bc w b l m1 a0 _ zs' M1.out hi))
            | (go_at_call 16; with_reducible exact class_call _ (fun hi => fixed_bc w b l _ hi))))
          refine wpQuiet_nil ?_
          rintro _ ⟨i, rfl⟩
          go_wp2_with fail
          go_ret
          exact ⟨rfl, i.h.old⟩
        · have e3 : (S'.toList == a0.toList) = false := by
            rw [beq_eq_false_iff_ne]
            intro h
            rw [Go.Lib.toList_data, Go.Lib.toList_data] at h
            exact e1 (Go.WideShapes.bytes_inj h)
          refine region_class (BC w b l) (by kernel_rfl) (by kernel_rfl) ⟨⟨hw.row.cell, hw.row.free, hw.row.there⟩, ⟨hw.old.os, hw.old.tape, hw.old.output, hw.old.size, hw.old.block⟩⟩ ?_
          repeat (go_big_quiet_step (first
            | (go_at_call 10; with_reducible exact class_call _ (fun hi => sum_bc w b l m1 S' _ zs' M1.out hi))
            | (go_at_call 10; with_reducible exact class_call _ (fun hi => sum_bc w b l m2 a0 _ zs M2.out hi))
            | (go_at_call 16; with_reducible exact class_call _ (fun hi => fixed_bc w b l _ hi))))
          refine wpQuiet_nil ?_
          rintro _ ⟨i, rfl⟩
          go_wp2_with fail
          go_ret
          exact ⟨rfl, i.h.old⟩

set_option maxHeartbeats 4000000 in
set_option maxRecDepth 1000000 in
theorem long (a0 : ByteArray) (at_ x0 x1 x2 x3 : Int) (i0 b m2 cap : Nat) (w W1 : World) (z0 : a0.size ≤ 140737488351232) (ha : ¬ (a0.size : Int) ≤ 300) (hl : (a0.extract 0 300).size = 300) (b0 : 0 ≤ at_) (b1 : at_ < 65536) 
    (hi : i0 < 300) (hidx : at_ % 300 = (i0 : Int)) (hbb : Hid (b = w.heap.size + 1)) (hl0 : (a0.extract 0 300).data.toList.length = 300) (hx : Hid (∀ j, j < 4 → ∃ y : Nat, y < 256 ∧ [x0, x1, x2, x3].getD j 0 = (y : Int)))
    (hconv : (convert 9 30 (.string (a0.extract 0 300))).run Try.prog (w.alloc (.cells #[.int .u8 x0, .int .u8 x1, .int .u8 x2, .int .u8 x3] 36)) = .ok (.slice (some ⟨b, 0, none⟩) 300 cap) W1)
    (hI : Hid (BInv w [x0, x1, x2, x3] b i0 (a0.extract 0 300).data.toList (a0.extract 0 300).data.toList W1)) (zs : (a0.extract 0 300).size ≤ maxLen) (M2 : Hid (Crc.more 0 (a0.extract 0 300).data.toList = m2)) :
    Calls Try.prog 9 #[.string a0, .int .u16 at_, .agg #[.int .u8 x0, .int .u8 x1, .int .u8 x2, .int .u8 x3]] w fun e w' => e = .returned (.bool true) ∧ Below w.heap.size w w' := by
  have HL0 := Lib.hid hl0
  clear hl0
  go_enter Try.func9, Try.ntmps9
  go_wp2_with fail
  (try rw [hidx])
  clear hconv hidx
  clear hl
  generalize a0.extract 0 300 = S at *
  have hl0 := HL0.out
  clear HL0
  have HL := Lib.hid hl0
  clear hl0
  go_loopg [9] 4 (fun g z wx => ∃ (k : Nat) (l : List UInt8), k + g = 4 ∧ z = .int .i64 k ∧ BInv w [x0, x1, x2, x3] b i0 S.data.toList l wx)
  case atStart => exact ⟨0, _, by omega, rfl, hI.out⟩
  case round =>
    obtain ⟨k, l, hk, rfl, hB⟩ := hrel
    cases gk with
    | zero =>
      obtain rfl : k = 4 := by omega
      go_wp2_with fail
      have hl0 := HL.out
      have hw : BC w b l wr := ⟨hB.row, hB.old⟩
      have hlen : l.length = 300 := by rw [hB.len, hl0]
      have F : ∀ i : In (BC w b l), (convert 30 9 (.slice (some ⟨b, 0, none⟩) 300 cap)).run Try.prog i.W = .ok (.string ⟨l.toArray⟩) i.W := by
        intro i; have := bytes_back (cap := cap) i.h.row; rw [hlen] at this; exact this
      have zs' : (⟨l.toArray⟩ : ByteArray).size ≤ maxLen := by rw [Go.Lib.size_eq, List.toList_toArray, hlen]; unfold maxLen; omega
      have TL : (⟨l.toArray⟩ : ByteArray).data.toList = l := List.toList_toArray
      obtain ⟨S', HS'⟩ : ∃ S', Hid ((⟨l.toArray⟩ : ByteArray) = S') := ⟨_, rfl⟩
      rw [HS'.out] at F zs' TL
      obtain ⟨m1, M1⟩ : ∃ m, Hid (Crc.more 0 S'.data.toList = m) := ⟨_, rfl⟩
      have hne : Nonempty (In (BC w b l)) := ⟨⟨_, hw⟩⟩
      have key : S = S' ∨ (¬ S' = S ∧ ((m1 : Int) == (m2 : Int)) = false) := by
        by_cases e : S' = S
        · exact .inl e.symm
        · refine .inr ⟨e, ?_⟩
          rw [beq_eq_false_iff_ne]
          intro h
          refine e ?_
          apply ByteArray.ext
          apply Array.toList_inj.1
          rw [TL]
          refine burst_eq S.data.toList l i0 ?_ hB.tk hB.dr ?_
          · exact hB.len
          · rw [← TL, M1.out, M2.out]; omega
      clear HS' TL
      rcases key with rfl | ⟨e1, e2⟩
      · have hm : m1 = m2 := by rw [← M1.out, M2.out]
        subst hm
        refine region_class (BC w b l) (by kernel_rfl) (by kernel_rfl) ⟨⟨hw.row.cell, hw.row.free, hw.row.there⟩, ⟨hw.old.os, hw.old.tape, hw.old.output, hw.old.size, hw.old.block⟩⟩ ?_
        repeat (go_big_quiet_step (first
          | (go_at_call 10; with_reducible exact class_call _ (fun hi => sum_bc w b l m1 S _ zs' M1.out hi))
          | (go_at_call 16; with_reducible exact class_call _ (fun hi => fixed_bc w b l _ hi))))
        refine wpQuiet_nil ?_
        rintro _ ⟨i, rfl⟩
        go_wp2_with fail
        go_ret
        exact ⟨rfl, i.h.old⟩
      · have e3 : (S'.toList == S.toList) = false := by
          rw [beq_eq_false_iff_ne]
          intro h
          rw [Go.Lib.toList_data, Go.Lib.toList_data] at h
          exact e1 (Go.WideShapes.bytes_inj h)
        refine region_class (BC w b l) (by kernel_rfl) (by kernel_rfl) ⟨⟨hw.row.cell, hw.row.free, hw.row.there⟩, ⟨hw.old.os, hw.old.tape, hw.old.output, hw.old.size, hw.old.block⟩⟩ ?_
        repeat (go_big_quiet_step (first
          | (go_at_call 10; with_reducible exact class_call _ (fun hi => sum_bc w b l m1 S' _ zs' M1.out hi))
          | (go_at_call 10; with_reducible exact class_call _ (fun hi => sum_bc w b l m2 S _ zs M2.out hi))
          | (go_at_call 16; with_reducible exact class_call _ (fun hi => fixed_bc w b l _ hi))))
        refine wpQuiet_nil ?_
        rintro _ ⟨i, rfl⟩
        go_wp2_with fail
        go_ret
        exact ⟨rfl, i.h.old⟩
    | succ g =>
      have hk4 : k < 4 := by omega
      by_cases hin : i0 + k < 300
      · obtain ⟨y, hy, ey⟩ := hx.out k hk4
        have hnext := Lib.hid (hB.step (by rw [hbb.out]; omega) k hk4 (by rw [HL.out]; exact hin) y hy)
        have hll : i0 + k < l.length := by rw [hB.len, HL.out]; exact hin
        have cell := hB.row.cell (i0 + k) hll
        have free := hB.row.free (i0 + k) hll
        have box := hB.box k hk4
        rw [ey] at box
        have X8 := u8_xor_nat (l.getD (i0 + k) 0).toNat y (UInt8.toNat_lt _) hy
        have hint : (i0 : Int) + (k : Int) < (300 : Int) := by omega
        clear ey hy
        generalize (l.getD (i0 + k) 0).toNat ^^^ y = d at *
        generalize (l.getD (i0 + k) 0).toNat = c at *
        go_wp2_with fail
        go_region
        go_wp2_with fail
        go_roundg g
        case measure => omega
        case rel => exact ⟨k + 1, _, by omega, by go_num, hnext.out⟩
      · have hout : ¬ (i0 : Int) + (k : Int) < (300 : Int) := by omega
        go_wp2_with fail
        have hl0 := HL.out
        have hw : BC w b l wr := ⟨hB.row, hB.old⟩
        have hlen : l.length = 300 := by rw [hB.len, hl0]
        have F : ∀ i : In (BC w b l), (convert 30 9 (.slice (some ⟨b, 0, none⟩) 300 cap)).run Try.prog i.W = .ok (.string ⟨l.toArray⟩) i.W := by
          intro i; have := bytes_back (cap := cap) i.h.row; rw [hlen] at this; exact this
        have zs' : (⟨l.toArray⟩ : ByteArray).size ≤ maxLen := by rw [Go.Lib.size_eq, List.toList_toArray, hlen]; unfold maxLen; omega
        have TL : (⟨l.toArray⟩ : ByteArray).data.toList = l := List.toList_toArray
        obtain ⟨S', HS'⟩ : ∃ S', Hid ((⟨l.toArray⟩ : ByteArray) = S') := ⟨_, rfl⟩
        rw [HS'.out] at F zs' TL
        obtain ⟨m1, M1⟩ : ∃ m, Hid (Crc.more 0 S'.data.toList = m) := ⟨_, rfl⟩
        have hne : Nonempty (In (BC w b l)) := ⟨⟨_, hw⟩⟩
        have key : S = S' ∨ (¬ S' = S ∧ ((m1 : Int) == (m2 : Int)) = false) := by
          by_cases e : S' = S
          · exact .inl e.symm
          · refine .inr ⟨e, ?_⟩
            rw [beq_eq_false_iff_ne]
            intro h
            refine e ?_
            apply ByteArray.ext
            apply Array.toList_inj.1
            rw [TL]
            refine burst_eq S.data.toList l i0 ?_ hB.tk hB.dr ?_
            · exact hB.len
            · rw [← TL, M1.out, M2.out]; omega
        clear HS' TL
        rcases key with rfl | ⟨e1, e2⟩
        · have hm : m1 = m2 := by rw [← M1.out, M2.out]
          subst hm
          refine region_class (BC w b l) (by kernel_rfl) (by kernel_rfl) ⟨⟨hw.row.cell, hw.row.free, hw.row.there⟩, ⟨hw.old.os, hw.old.tape, hw.old.output, hw.old.size, hw.old.block⟩⟩ ?_
          repeat (go_big_quiet_step (first
            | (go_at_call 10; with_reducible exact class_call _ (fun hi => sum_bc w b l m1 S _ zs' M1.out hi))
            | (go_at_call 16; with_reducible exact class_call _ (fun hi => fixed_bc w b l _ hi))))
          refine wpQuiet_nil ?_
          rintro _ ⟨i, rfl⟩
          go_wp2_with fail
          go_ret
          exact ⟨rfl, i.h.old⟩
        · have e3 : (S'.toList == S.toList) = false := by
            rw [beq_eq_false_iff_ne]
            intro h
            rw [Go.Lib.toList_data, Go.Lib.toList_data] at h
            exact e1 (Go.WideShapes.bytes_inj h)
          refine region_class (BC w b l) (by kernel_rfl) (by kernel_rfl) ⟨⟨hw.row.cell, hw.row.free, hw.row.there⟩, ⟨hw.old.os, hw.old.tape, hw.old.output, hw.old.size, hw.old.block⟩⟩ ?_
          repeat (go_big_quiet_step (first
            | (go_at_call 10; with_reducible exact class_call _ (fun hi => sum_bc w b l m1 S' _ zs' M1.out hi))
            | (go_at_call 10; with_reducible exact class_call _ (fun hi => sum_bc w b l m2 S _ zs M2.out hi))
            | (go_at_call 16; with_reducible exact class_call _ (fun hi => fixed_bc w b l _ hi))))
          refine wpQuiet_nil ?_
          rintro _ ⟨i, rfl⟩
          go_wp2_with fail
          go_ret
          exact ⟨rfl, i.h.old⟩

set_option maxHeartbeats 1000000 in
theorem none_ (a0 : ByteArray) (at_ x0 x1 x2 x3 : Int) (w : World) (h : (a0.size : Int) = 0) :
    Calls Try.prog 9 #[.string a0, .int .u16 at_, .agg #[.int .u8 x0, .int .u8 x1, .int .u8 x2, .int .u8 x3]] w fun e w' => e = .returned (.bool true) ∧ Below w.heap.size w w' := by
  have h3 : (a0.size : Int) ≤ 300 := by omega
  go_enter Try.func9, Try.ntmps9
  go_wp2_with fail
  refine (fixed_ge w _ ((Below.refl _ _).alloc (Nat.le_refl _) _)).mono ?_
  rintro e w1 ⟨rfl, h1⟩
  go_wp2_with fail
  go_ret
  exact ⟨rfl, h1⟩

theorem start (w : World) (x0 x1 x2 x3 : Int) (i0 : Nat) (S : ByteArray) :
    ∃ (cap : Nat) (W1 : World), (convert 9 30 (.string S)).run Try.prog (w.alloc (.cells #[.int .u8 x0, .int .u8 x1, .int .u8 x2, .int .u8 x3] 36)) = .ok (.slice (some ⟨w.heap.size + 1, 0, none⟩) S.size cap) W1 ∧
      BInv w [x0, x1, x2, x3] (w.heap.size + 1) i0 S.data.toList S.data.toList W1 := by
  obtain ⟨cap, W1, hc, hr, hb⟩ := bytes_new (w.alloc (.cells #[.int .u8 x0, .int .u8 x1, .int .u8 x2, .int .u8 x3] 36)) S
  have hz : (w.alloc (.cells #[.int .u8 x0, .int .u8 x1, .int .u8 x2, .int .u8 x3] 36)).heap.size = w.heap.size + 1 := by simp
  have h0 : Below w.heap.size w (w.alloc (.cells #[.int .u8 x0, .int .u8 x1, .int .u8 x2, .int .u8 x3] 36)) := (Below.refl _ _).alloc (Nat.le_refl _) _
  have box : ∀ j, j < 4 → (w.alloc (.cells #[.int .u8 x0, .int .u8 x1, .int .u8 x2, .int .u8 x3] 36)).cell? ⟨w.heap.size, j, none⟩ = some (.int .u8 ([x0, x1, x2, x3].getD j 0)) := by
    intro j hj
    match j, hj with
    | 0, _ => simp [go_sem]
    | 1, _ => simp [go_sem]
    | 2, _ => simp [go_sem]
    | 3, _ => simp [go_sem]
  rw [hz] at hc hr
  exact ⟨cap, W1, hc, hr, rfl, rfl, rfl, h0.trans (hb.mono h0.size), fun j hj => (hb.cell (p := ⟨w.heap.size, j, none⟩) (by rw [hz]; exact Nat.lt_succ_self _)).trans (box j hj)⟩

theorem small4 (x0 x1 x2 x3 : Int) (h0 : 0 ≤ x0 ∧ x0 ≤ 255) (h1 : 0 ≤ x1 ∧ x1 ≤ 255) (h2 : 0 ≤ x2 ∧ x2 ≤ 255) (h3 : 0 ≤ x3 ∧ x3 ≤ 255) : ∀ j, j < 4 → ∃ y : Nat, y < 256 ∧ [x0, x1, x2, x3].getD j 0 = (y : Int) := by
  intro j hj
  match j, hj with
  | 0, _ => exact ⟨x0.toNat, by omega, by show x0 = _; omega⟩
  | 1, _ => exact ⟨x1.toNat, by omega, by show x1 = _; omega⟩
  | 2, _ => exact ⟨x2.toNat, by omega, by show x2 = _; omega⟩
  | 3, _ => exact ⟨x3.toNat, by omega, by show x3 = _; omega⟩

set_option maxHeartbeats 1000000 in
theorem walk (a0 : ByteArray) (at_ : Int) (a2_0 a2_1 a2_2 a2_3 : Int) (w0 : a0.size ≤ maxLen) (w1 : (Lit.int .u16 at_).wf = true) (w2_0 : (Lit.int .u8 a2_0).wf = true) (w2_1 : (Lit.int .u8 a2_1).wf = true) (w2_2 : (Lit.int .u8 a2_2).wf = true) (w2_3 : (Lit.int .u8 a2_3).wf = true) (z0 : a0.size ≤ 140737488351232) (w : World) :
    Calls Try.prog 9 #[.string a0, .int .u16 at_, .agg #[.int .u8 a2_0, .int .u8 a2_1, .int .u8 a2_2, .int .u8 a2_3]] w fun e w' => e = .returned (.bool true) ∧ Below w.heap.size w w' := by
  obtain ⟨b0, bb⟩ := bounds_u16 w1
  have hx := small4 a2_0 a2_1 a2_2 a2_3 (bounds_u8 w2_0) (bounds_u8 w2_1) (bounds_u8 w2_2) (bounds_u8 w2_3)
  by_cases hz : a0.size = 0
  · exact none_ a0 at_ _ _ _ _ w (by omega)
  by_cases hs : (a0.size : Int) ≤ 300
  · obtain ⟨i, hi⟩ := Int.eq_ofNat_of_zero_le (show 0 ≤ at_ % (a0.size : Int) from Int.emod_nonneg _ (by omega))
    have hlt : at_ % (a0.size : Int) < a0.size := Int.emod_lt_of_pos _ (by omega)
    obtain ⟨cap, W1, hc, hI⟩ := start w a2_0 a2_1 a2_2 a2_3 i a0
    exact short a0 at_ _ _ _ _ i _ _ cap w W1 z0 hs b0 (by omega) (by omega) (by omega) (by omega) hi (Lib.hid rfl) (Go.Lib.size_eq a0).symm (Lib.hid hx) hc (Lib.hid hI) w0 (Lib.hid rfl)
  · have hl : (a0.extract 0 300).size = 300 := by rw [ByteArray.size_extract]; omega
    obtain ⟨i, hi⟩ := Int.eq_ofNat_of_zero_le (show 0 ≤ at_ % 300 by omega)
    obtain ⟨cap, W1, hc, hI⟩ := start w a2_0 a2_1 a2_2 a2_3 i (a0.extract 0 300)
    rw [hl] at hc
    exact long a0 at_ _ _ _ _ i _ _ cap w W1 z0 hs hl b0 (by omega) (by omega) hi (Lib.hid rfl) (by rw [← Go.Lib.size_eq, hl]) (Lib.hid hx) hc (Lib.hid hI) (by rw [hl]; unfold maxLen; omega) (Lib.hid rfl)

theorem cellsE2 : Try.prog.cellsOf 5 = 1 := by kernel_rfl
theorem cellsT2 : Try.prog.cellsOf 36 = 4 := by kernel_rfl

set_option maxRecDepth 100000 in
theorem lifted (os : Os) (started : os.Started) (H : Type) (enc : TypeId × Value → H) :
    ReturnsInHanded {} Try.checked os 9 .any (Rows.crcBurstSpec.pre6 enc Try.prog Try.f9 Rows.crcBurstRow.domain false) (Rows.crcBurstSpec.post enc Try.prog Try.f9 false true false false) := by
  refine returnsInHanded_of_change_sized (C := Try.checked) own started (by kernel_rfl) Try.func9
    (ChangeSpec.witness6 (enc := enc) (C := Try.checked) false ⟨#[], #[.string ByteArray.empty, .int .u16 0, .agg #[.int .u8 0, .int .u8 0, .int .u8 0, .int .u8 0]], []⟩ 8 (by kernel_rfl) (by kernel_rfl) (by kernel_rfl) (by kernel_rfl)) ?_
  intro W base args ds gs before hval0 hW hcnd hsz0 _
  have hsz : (DataW.weightsEach Try.prog (Try.f9.params.toList ++ Rows.crcBurstSpec.plain.varTypes Try.prog) (ds ++ gs)).all (· ≤ reachBytes) = true := hsz0
  clear hsz0
  have hval : ∀ (j : Nat) t v, Try.f9.params[j]? = some t → args[j]? = some v → Value.okWide Try.prog W .any base t v := hval0
  have hW' := hW
  obtain ⟨p, q, hA0, hV, rfl, hfz, hnd⟩ := hW
  have hA : DataW.TrodAll enc Try.prog W 0 (fun _ => true) true Try.f9.params.toList args.toList ds p := hA0
  rw [Try.params9] at hA hval hsz
  obtain ⟨v0, vs0, d0, ds0, p0, q0, hargs, rfl, rfl, h0, r0⟩ := trodAll_cons hA
  obtain ⟨v1, vs1, d1, ds1, p1, q1, rfl, rfl, rfl, h1, r1⟩ := trodAll_cons r0
  obtain ⟨v2, vs2, d2, ds2, p2, q2, rfl, rfl, rfl, h2, r2⟩ := trodAll_cons r1
  obtain ⟨rfl, rfl, rfl⟩ := trodAll_nil r2
  obtain rfl : args = #[v0, v1, v2] := by cases args; simp_all
  obtain ⟨rfl, rfl⟩ := trodVars_none hV
  obtain ⟨a0, rfl, rfl, rfl, w0⟩ := open_string Try.underlying9 (hval 0 9 v0 rfl rfl) h0
  obtain ⟨a1, rfl, rfl, rfl, w1⟩ := open_int Try.underlying28 (hval 1 28 v1 rfl rfl) h1
  obtain ⟨a2_0, a2_1, a2_2, a2_3, rfl, rfl, rfl, w2_0, w2_1, w2_2, w2_3⟩ := open_arr4 Try.underlying36 Try.underlying5 cellsE2 cellsT2 (hval 2 36 v2 rfl rfl) h2
  have z0 : a0.size ≤ 140737488351232 := by
    have := sized_string hsz (j := 0) (t := 9) rfl rfl
    rw [Go.Lib.size_eq]; exact this
  clear hA0 hval0
  simp only [List.append_nil] at hW'
  refine (walk a0 a1 a2_0 a2_1 a2_2 a2_3 w0 w1 w2_0 w2_1 w2_2 w2_3 z0 W).mono fun e W' ⟨he, hg⟩ => ?_
  subst he
  exact ⟨_, rfl, post_plain hW' (fun _ _ _ => (trodAll_cons_mk (shut_bool Try.underlying4 _) trodAll_mk0)) (fun sp => (trodAll_cons_mk (shut_string Try.underlying9 w0) (trodAll_cons_mk (shut_int Try.underlying28 w1) (trodAll_cons_mk (shut_arr4 Try.underlying36 Try.underlying5 cellsE2 cellsT2 w2_0 w2_1 w2_2 w2_3) trodAll_mk0)))) (fun _ => rfl) hg (ok_one (by kernel_rfl) rfl (okWide_bool_mk Try.underlying4 _))⟩

theorem over : Rows.crcBurstRow.holds Try.pinned (OpenSpec.ofChange Rows.crcBurstSpec) :=
  OpenClaim.holds_of_wide 9 Try.f9 rfl rfl rfl rfl rfl rfl rfl ⟨rfl, rfl, rfl, rfl, rfl⟩ rfl rfl rfl rfl rfl (by kernel_rfl) Try.func9 (by kernel_rfl)
    (of_decide_eq_true (by kernel_rfl)) (by unfold Func.isWrapper; first | (rw [if_pos (by decide +kernel)]; kernel_rfl) | (rw [if_neg (by decide +kernel)]; exact ⟨rfl, rfl⟩))
    (fun os started H enc _ => lifted os started H enc)

theorem proved : Rows.CrcBurstSaid := over
#print axioms proved
end Go.Proofs.Ythppijlfaoegpaa.crcBurst
