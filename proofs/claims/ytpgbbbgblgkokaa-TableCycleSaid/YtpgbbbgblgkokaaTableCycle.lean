/- For every number of segments, of records, and every first LSN the statement TableCycle about table.New, Roll, Drop, Free and Room returns true, and changes nothing. Conditions: none. -/
import Derived.Test.YtpgbbbgblgkokaaTbY
import Derived.Test.YtpgbbbgblgkokaaFrame
import Derived.Deep.DeepCutAuto
import Derived.Deep.LoopGhost
import Derived.Deep.RegionWith
import Derived.StillTailTactics
import Derived.WalkSmall
import Derived.IntWalk
import Derived.ProofKit
import Derived.OpenShut
import Derived.ShutString
import Derived.SizedLaws
namespace Go.Proofs.Ytpgbbbgblgkokaa.tableCycle
open Go.ChangeShapes Go.WideShapes Go.ChangeAt Go.RowKit Go.Lib
open Go.ChangeMaps (open_string shut_string)
set_option linter.unusedVariables false

theorem own : ownKnob Try.prog.godebug = none := by kernel_rfl

theorem u64_of {n : Int} (h : (Lit.int .u64 n).wf = true) : 0 ≤ n ∧ n < 18446744073709551616 := by
  simp [Lit.wf] at h
  have h2 : n ≤ 18446744073709551615 := h.2
  exact ⟨h.1, by omega⟩

set_option maxRecDepth 100000 in
set_option maxHeartbeats 16000000 in
theorem walk (a0 a1 first : Int) (w0 : (Lit.int .u8 a0).wf = true) (w1 : (Lit.int .u8 a1).wf = true) (w2 : (Lit.int .u64 first).wf = true) (w : World) :
    Calls Try.prog 8 #[.int .u8 a0, .int .u8 a1, .int .u64 first] w fun e w' => e = .returned (.bool true) ∧ Below w.heap.size w w' := by
  have h0 := u8_of w0
  have h1 := u8_of w1
  obtain ⟨n, Hn⟩ : ∃ n : Nat, Hid (4 + a0 % 13 = (n : Int)) := ⟨(4 + a0 % 13).toNat, Lib.hid (by omega)⟩
  obtain ⟨st, Hs⟩ : ∃ s : Int, Hid (1 + a1 % 30 = s) := ⟨_, Lib.hid rfl⟩
  have bn : 4 ≤ n ∧ n ≤ 16 := by have := Hn.out; omega
  have bs : 1 ≤ st ∧ st ≤ 30 := by have := Hs.out; omega
  obtain ⟨F, HF⟩ : ∃ F : Nat → Int, Hid (∀ j : Nat, IntKind.u64.wrap (first + (j : Int)) = F j) := ⟨fun j => IntKind.u64.wrap (first + (j : Int)), Lib.hid (fun _ => rfl)⟩
  have F0 : F 0 = first := by
    rw [← HF.out 0, IntKind.wrap_u64]
    have := u64_of w2
    omega
  have HS : Hid (sizeB (n : Int) st = true) := Lib.hid (by unfold sizeB; rw [decide_eq_true_iff]; omega)
  have HT1 : Hid ((if sizeB (n : Int) st = true then newT n st first else zeroT) = ⟨(n : Int), st, upto 1, zeros 1, frs F 1⟩ ∧ (if sizeB (n : Int) st = true then (0 : Int) else 1) = 0) := Lib.hid (by
    rw [HS.out]
    refine ⟨?_, rfl⟩
    simp only [if_true, newT]
    rw [show frs F 1 = [first] by rw [← F0]; rfl]
    rfl)
  have BB := Below.refl w.heap.size w
  have hv := Try.zeroValue28
  clear w0 w1 w2 F0
  go_enter Try.func8, Try.ntmps8
  go_upto_region 2 with fail
  rw [Hn.out, Hs.out]
  clear h0 h1 Hn Hs
  go_wp2_with fail
  refine (resv (sg := (n : Int)) (st := st) (o := upto 1) (l := zeros 1) (f' := frs F 1) (y' := 0) (new_any (n : Int) st first _) HT1.out.1 HT1.out.2).mono ?_
  rintro e' w9 ⟨A9, m9, p9, B9, k9, q9, C9, n9, r9, rfl, t9, mp9, fr9, hb⟩
  clear fr9
  replace BB := Ge.trans BB hb
  clear hb
  have hw9 := BB.size
  have N9 : Blk (w9.alloc (.cells #[.int .i64 0, .int .i64 0, .slice none 0 0, .slice none 0 0, .slice none 0 0] 28)) w9.heap.size 28 (csT 0 0 none 0 0 none 0 0 none 0 0) := Blk.new w9 _ _
  go_upto_region 3 with (with_reducible refine store_t rfl (.tmp 9) (.tmp 33) rfl w9.heap.size rfl rfl N9 ?_)
  have hb3 : Below w9.heap.size w9 ((w9.alloc (.cells #[.int .i64 0, .int .i64 0, .slice none 0 0, .slice none 0 0, .slice none 0 0] 28)).setRow w9.heap.size (csT (n : Int) st A9 m9 p9 B9 k9 q9 C9 n9 r9)) := below_row (below1 _ _) (Nat.le_refl _) _
  have K9 : Blk ((w9.alloc (.cells #[.int .i64 0, .int .i64 0, .slice none 0 0, .slice none 0 0, .slice none 0 0] 28)).setRow w9.heap.size (csT (n : Int) st A9 m9 p9 B9 k9 q9 C9 n9 r9)) w9.heap.size 28 (csT (n : Int) st A9 m9 p9 B9 k9 q9 C9 n9 r9) := N9.row _
  replace t9 := t9.later hb3
  replace BB := Ge.trans BB hb3
  clear hb3 N9
  generalize (w9.alloc (.cells #[.int .i64 0, .int .i64 0, .slice none 0 0, .slice none 0 0, .slice none 0 0] 28)).setRow w9.heap.size (csT (n : Int) st A9 m9 p9 B9 k9 q9 C9 n9 r9) = y9 at *
  generalize w9.heap.size = b9 at *
  have e09 : y9.cell? ⟨b9, 0, none⟩ = some (.int .i64 (n : Int)) := K9.cell 0
  have e19 : y9.cell? ⟨b9, 1, none⟩ = some (.int .i64 st) := K9.cell 1
  have e29 : y9.cell? ⟨b9, 2, none⟩ = some (.slice A9 m9 p9) := K9.cell 2
  have e39 : y9.cell? ⟨b9, 3, none⟩ = some (.slice B9 k9 q9) := K9.cell 3
  have e49 : y9.cell? ⟨b9, 4, none⟩ = some (.slice C9 n9 r9) := K9.cell 4
  go_wp2_with (first | (with_reducible refine load_t rfl (.tmp 9) rfl b9 rfl K9 ?_))
  clear e09 e19 e29 e39 e49
  refine (right_is (n : Int) st A9 m9 p9 B9 k9 q9 C9 n9 r9 (upto 1) (zeros 1) (frs F 1) true _ t9 (size_le t9.a (by simp only [upto_len]; omega)) (size_le t9.b (by simp only [zeros_len]; omega)) (size_le t9.c (by simp only [frs_len]; omega)) mp9 ((okT_iff _).2 (cyc_ok (n := n) (F := F) (i := 1) bn bs (by omega)))).mono ?_
  rintro e' x1 ⟨rfl, hb⟩
  replace t9 := t9.later hb
  replace K9 := K9.later hb
  replace BB := Ge.trans BB hb
  clear hb
  have I0 : Hid (CyI w b9 (n : Int) st A9 m9 p9 B9 k9 q9 C9 n9 r9 (upto 1) (zeros 1) (frs F 1) x1) := Lib.hid ⟨BB, K9, t9, mp9⟩
  clear BB K9 t9 mp9 HT1
  go_wp2_with fail
  go_loopg [11] (n - 1) (fun gk s11 wr => ∃ i A m p B k q C nn r, 1 ≤ i ∧ i ≤ n ∧ gk = n - i ∧ s11 = .int .i64 (i : Nat) ∧ Hid (CyI w b9 (n : Int) st A m p B k q C nn r (upto i) (zeros i) (frs F i) wr))
  case atStart => exact ⟨1, _, _, _, _, _, _, _, _, _, by omega, by omega, rfl, rfl, I0⟩
  case round =>
    obtain ⟨i, A9, m9, p9, B9, k9, q9, C9, n9, r9, hi1, hi, hgk, rfl, HI⟩ := hrel
    have HG := Lib.hid hgk
    clear hgk I0
    by_cases hlt : i < n
    · have hlti : (i : Int) < (n : Int) := by omega
      obtain ⟨BB, K9, t9, mp9⟩ := HI.out
      have hb9 := K9.lt
      have e1 := HF.out i
      go_wp2_with (first | (with_reducible refine load_t rfl (.tmp 9) rfl b9 rfl K9 ?_))
      refine (resv (sg := (n : Int)) (st := st) (o := upto (i + 1)) (l := zeros (i + 1)) (f' := frs F (i + 1)) (y' := 0) (roll_any (n : Int) st A9 m9 p9 B9 k9 q9 C9 n9 r9 (upto i) (zeros i) (frs F i) (F i) _ t9 (cyc_ok (n := n) (F := F) (i := i) bn bs (by omega))) (by show tabOf (rollT (cyc n st F i) (F i)) = _; rw [cyc_roll hlt]; rfl) (by show errOf (rollT (cyc n st F i) (F i)) 10 = 0; rw [cyc_roll hlt]; rfl)).mono ?_
      rintro e' w12 ⟨A12, m12, p12, B12, k12, q12, C12, n12, r12, rfl, t12, mp12, fr12, hb⟩
      replace K9 := K9.later hb
      replace t9 := t9.later hb
      replace BB := Ge.trans BB hb
      clear hb
      have N12 : Blk (w12.alloc (.cells #[.int .i64 0, .int .i64 0, .slice none 0 0, .slice none 0 0, .slice none 0 0] 28)) w12.heap.size 28 (csT 0 0 none 0 0 none 0 0 none 0 0) := Blk.new w12 _ _
      go_upto_region 9 with (with_reducible refine store_t rfl (.tmp 12) (.tmp 54) rfl w12.heap.size rfl rfl N12 ?_)
      have hb3 : Below w12.heap.size w12 ((w12.alloc (.cells #[.int .i64 0, .int .i64 0, .slice none 0 0, .slice none 0 0, .slice none 0 0] 28)).setRow w12.heap.size (csT (n : Int) st A12 m12 p12 B12 k12 q12 C12 n12 r12)) := below_row (below1 _ _) (Nat.le_refl _) _
      have K12 : Blk ((w12.alloc (.cells #[.int .i64 0, .int .i64 0, .slice none 0 0, .slice none 0 0, .slice none 0 0] 28)).setRow w12.heap.size (csT (n : Int) st A12 m12 p12 B12 k12 q12 C12 n12 r12)) w12.heap.size 28 (csT (n : Int) st A12 m12 p12 B12 k12 q12 C12 n12 r12) := N12.row _
      replace K9 := K9.later hb3
      replace t9 := t9.later hb3
      replace t12 := t12.later hb3
      replace BB := Ge.trans BB hb3
      clear hb3 N12
      generalize (w12.alloc (.cells #[.int .i64 0, .int .i64 0, .slice none 0 0, .slice none 0 0, .slice none 0 0] 28)).setRow w12.heap.size (csT (n : Int) st A12 m12 p12 B12 k12 q12 C12 n12 r12) = y12 at *
      generalize w12.heap.size = b12 at *
      have e012 : y12.cell? ⟨b12, 0, none⟩ = some (.int .i64 (n : Int)) := K12.cell 0
      have e112 : y12.cell? ⟨b12, 1, none⟩ = some (.int .i64 st) := K12.cell 1
      have e212 : y12.cell? ⟨b12, 2, none⟩ = some (.slice A12 m12 p12) := K12.cell 2
      have e312 : y12.cell? ⟨b12, 3, none⟩ = some (.slice B12 k12 q12) := K12.cell 3
      have e412 : y12.cell? ⟨b12, 4, none⟩ = some (.slice C12 n12 r12) := K12.cell 4
      go_wp2_with (first | (with_reducible refine load_t rfl (.tmp 9) rfl b9 rfl K9 ?_) | (with_reducible refine load_t rfl (.tmp 12) rfl b12 rfl K12 ?_))
      clear e012 e112 e212 e312 e412
      refine (right_is (n : Int) st A12 m12 p12 B12 k12 q12 C12 n12 r12 (upto (i + 1)) (zeros (i + 1)) (frs F (i + 1)) true _ t12 (size_le t12.a (by simp only [upto_len]; omega)) (size_le t12.b (by simp only [zeros_len]; omega)) (size_le t12.c (by simp only [frs_len]; omega)) mp12 ((okT_iff _).2 (cyc_ok (n := n) (F := F) (i := i + 1) bn bs (by omega)))).mono ?_
      rintro e' x2 ⟨rfl, hb⟩
      replace K9 := K9.later hb
      replace t9 := t9.later hb
      replace t12 := t12.later hb
      replace K12 := K12.later hb
      replace BB := Ge.trans BB hb
      clear hb
      obtain rfl : m12 = i + 1 := by have := t12.a.len; rw [upto_len] at this; exact this
      obtain rfl : n12 = i + 1 := by have := t12.c.len; rw [frs_len] at this; exact this
      obtain ⟨bo, oo, rfl, _, co⟩ := t12.a.cells (by omega)
      obtain ⟨bf, of, rfl, _, cf⟩ := t12.c.cells (by omega)
      have c1 := co i (by omega)
      have c2 := cf i (by omega)
      simp only at c1 c2
      rw [nth_upto (by omega)] at c1
      rw [nth_frs (by omega)] at c2
      have u1 : ((i : Int) + 1 != (i : Int) + 1) = false := by simp
      have u2 : ((i : Int) != (i : Int)) = false := by simp
      have u3 : (F i != F i) = false := by simp
      have u4 : (i : Int) < (i : Int) + 1 := by omega
      have u5 : ((i : Int) + 1) ≤ 16 := by omega
      clear co cf
      have g0 : x2.cell? ⟨b12, 0, none⟩ = some (.int .i64 (n : Int)) := K12.cell 0
      have g1 : x2.cell? ⟨b12, 1, none⟩ = some (.int .i64 st) := K12.cell 1
      have g2 : x2.cell? ⟨b12, 2, none⟩ = some (.slice (some ⟨bo, oo, none⟩) (i + 1) p12) := K12.cell 2
      have g3 : x2.cell? ⟨b12, 3, none⟩ = some (.slice B12 k12 q12) := K12.cell 3
      have g4 : x2.cell? ⟨b12, 4, none⟩ = some (.slice (some ⟨bf, of, none⟩) (i + 1) r12) := K12.cell 4
      go_upto_region 11 with fail
      clear g0 g1 g2 g3 g4 c1 c2 u1 u2 u3 u4
      go_wp2_with (first
        | (with_reducible refine load_t rfl (.tmp 12) rfl b12 rfl K12 ?_)
        | (with_reducible refine store_t rfl (.tmp 9) (.tmp 92) rfl b9 rfl rfl K9 ?_))
      have I2 : Hid (CyI w b9 (n : Int) st (some ⟨bo, oo, none⟩) (i + 1) p12 B12 k12 q12 (some ⟨bf, of, none⟩) (i + 1) r12 (upto (i + 1)) (zeros (i + 1)) (frs F (i + 1)) (x2.setRow b9 (csT (n : Int) st (some ⟨bo, oo, none⟩) (i + 1) p12 B12 k12 q12 (some ⟨bf, of, none⟩) (i + 1) r12))) := Lib.hid ⟨below_row BB hw9 _, K9.row _, t12.rowF fr12 hb9, mp12⟩
      clear BB K9 t9 K12 t12 HI e1
      generalize x2.setRow b9 (csT (n : Int) st (some ⟨bo, oo, none⟩) (i + 1) p12 B12 k12 q12 (some ⟨bf, of, none⟩) (i + 1) r12) = W9 at *
      go_wp2_with fail
      go_roundg (n - (i + 1))
      case measure => have := HG.out; omega
      case rel => exact ⟨i + 1, _, _, _, _, _, _, _, _, _, by omega, by omega, rfl, by go_num, I2⟩
    · obtain rfl : i = n := by omega
      obtain ⟨BB, K9, t9, mp9⟩ := HI.out
      clear HI HG hi hi1
      go_wp2_with (first | (with_reducible refine load_t rfl (.tmp 9) rfl b9 rfl K9 ?_))
      refine (resv (sg := 0) (st := 0) (o := []) (l := []) (f' := []) (y' := 10) (roll_any (i : Int) st A9 m9 p9 B9 k9 q9 C9 n9 r9 (upto i) (zeros i) (frs F i) 0 _ t9 (cyc_ok (n := i) (F := F) (i := i) bn bs (by omega))) (by show tabOf (rollT (cyc i st F i) 0) = _; rw [(cyc_full 0).1]; rfl) (by show errOf (rollT (cyc i st F i) 0) 10 = 10; rw [(cyc_full 0).1]; rfl)).mono ?_
      rintro e' w14 ⟨A14, m14, p14, B14, k14, q14, C14, n14, r14, rfl, t14, mp14, fr14, hb⟩
      clear fr14
      replace K9 := K9.later hb
      replace t9 := t9.later hb
      replace BB := Ge.trans BB hb
      clear hb
      have N14 : Blk (w14.alloc (.cells #[.int .i64 0, .int .i64 0, .slice none 0 0, .slice none 0 0, .slice none 0 0] 28)) w14.heap.size 28 (csT 0 0 none 0 0 none 0 0 none 0 0) := Blk.new w14 _ _
      go_upto_region 13 with (with_reducible refine store_t rfl (.tmp 14) (.tmp 96) rfl w14.heap.size rfl rfl N14 ?_)
      have hb3 : Below w14.heap.size w14 ((w14.alloc (.cells #[.int .i64 0, .int .i64 0, .slice none 0 0, .slice none 0 0, .slice none 0 0] 28)).setRow w14.heap.size (csT 0 0 A14 m14 p14 B14 k14 q14 C14 n14 r14)) := below_row (below1 _ _) (Nat.le_refl _) _
      have K14 : Blk ((w14.alloc (.cells #[.int .i64 0, .int .i64 0, .slice none 0 0, .slice none 0 0, .slice none 0 0] 28)).setRow w14.heap.size (csT 0 0 A14 m14 p14 B14 k14 q14 C14 n14 r14)) w14.heap.size 28 (csT 0 0 A14 m14 p14 B14 k14 q14 C14 n14 r14) := N14.row _
      replace K9 := K9.later hb3
      replace t9 := t9.later hb3
      replace t14 := t14.later hb3
      replace BB := Ge.trans BB hb3
      clear hb3 N14
      generalize (w14.alloc (.cells #[.int .i64 0, .int .i64 0, .slice none 0 0, .slice none 0 0, .slice none 0 0] 28)).setRow w14.heap.size (csT 0 0 A14 m14 p14 B14 k14 q14 C14 n14 r14) = y14 at *
      generalize w14.heap.size = b14 at *
      clear K14 t14 mp14
      have e09 : y14.cell? ⟨b9, 0, none⟩ = some (.int .i64 (i : Int)) := K9.cell 0
      have e19 : y14.cell? ⟨b9, 1, none⟩ = some (.int .i64 st) := K9.cell 1
      have e29 : y14.cell? ⟨b9, 2, none⟩ = some (.slice A9 m9 p9) := K9.cell 2
      have e39 : y14.cell? ⟨b9, 3, none⟩ = some (.slice B9 k9 q9) := K9.cell 3
      have e49 : y14.cell? ⟨b9, 4, none⟩ = some (.slice C9 n9 r9) := K9.cell 4
      go_wp2_with (first | (with_reducible refine load_t rfl (.tmp 9) rfl b9 rfl K9 ?_))
      clear e09 e19 e29 e39 e49
      refine (tfree_any (i : Int) st A9 m9 p9 B9 k9 q9 C9 n9 r9 (upto i) (zeros i) (frs F i) _ t9 (size_le t9.a (by rw [upto_len]; omega)) (by omega)).mono ?_
      rintro e' z1 ⟨Af, mf, pf, rfl, sf, hb⟩
      obtain rfl : mf = 0 := by
        have := sf.len
        rw [show freeT ⟨(i : Int), st, upto i, zeros i, frs F i⟩ = [] from (cyc_full (F := F) 0).2] at this
        exact this
      clear sf
      replace K9 := K9.later hb
      replace t9 := t9.later hb
      replace BB := Ge.trans BB hb
      clear hb
      have u0 : (st != st) = false := by simp
      have e09 : z1.cell? ⟨b9, 0, none⟩ = some (.int .i64 (i : Int)) := K9.cell 0
      have e19 : z1.cell? ⟨b9, 1, none⟩ = some (.int .i64 st) := K9.cell 1
      have e29 : z1.cell? ⟨b9, 2, none⟩ = some (.slice A9 m9 p9) := K9.cell 2
      have e39 : z1.cell? ⟨b9, 3, none⟩ = some (.slice B9 k9 q9) := K9.cell 3
      have e49 : z1.cell? ⟨b9, 4, none⟩ = some (.slice C9 n9 r9) := K9.cell 4
      go_wp2_with (first | (with_reducible refine load_t rfl (.tmp 9) rfl b9 rfl K9 ?_))
      clear e09 e19 e29 e39 e49
      refine (room_is (i : Int) st A9 m9 p9 B9 k9 q9 C9 n9 r9 (upto i) (zeros i) (frs F i) st _ t9 (cyc_ok (n := i) (F := F) (i := i) bn bs (by omega)) (cyc_room (n := i) (F := F) (by omega))).mono ?_
      rintro e' z2 ⟨rfl, hb⟩
      replace K9 := K9.later hb
      replace t9 := t9.later hb
      replace BB := Ge.trans BB hb
      clear hb
      clear u0
      have ow : OwR z2.heap.size (some ⟨z2.heap.size, 0, none⟩) 0 0 (upto 0) (z2.alloc (.cells #[] 3)) := ⟨World.ownsRow_lit z2 #[] 0 (Nat.le_refl _) (Nat.zero_le _) rfl⟩
      have hbs := K9.lt
      have hws := BB.size
      have hb := below1 z2 (.cells #[] 3)
      replace K9 := K9.later hb
      replace t9 := t9.later hb
      replace BB := Ge.trans BB hb
      clear hb
      go_upto_region 17 with fail
      have I0 : Hid (CyI w b9 (i : Int) st A9 m9 p9 B9 k9 q9 C9 n9 r9 ((upto i).drop 0) ((zeros i).drop 0) ((frs F i).drop 0) (z2.alloc (.cells #[] 3))) := Lib.hid ⟨BB, K9, t9, mp9⟩
      have O0 := Lib.hid ow
      have hzs : z2.heap.size ≤ (z2.alloc (.cells #[] 3)).heap.size := by simp
      have HZS := Lib.hid hzs
      clear BB K9 t9 mp9 ow hzs
      generalize z2.alloc (.cells #[] 3) = z3 at *
      generalize z2.heap.size = bs0 at *
      go_loopg [16, 17] i (fun gk s16 s17 wr => ∃ j A m p B k q C nn r D c e, j + 1 ≤ i ∧ gk = i - j ∧ s17 = .int .i64 (j : Nat) ∧ s16 = .slice D c e ∧ Hid (CyI w b9 (i : Int) st A m p B k q C nn r ((upto i).drop j) ((zeros i).drop j) ((frs F i).drop j) wr) ∧ Hid (OwR bs0 D c e (upto j) wr) ∧ Hid (bs0 ≤ wr.heap.size))
      case atStart => exact ⟨0, _, _, _, _, _, _, _, _, _, _, _, _, by omega, rfl, rfl, rfl, I0, O0, HZS⟩
      case round =>
        obtain ⟨j, A9, m9, p9, B9, k9, q9, C9, n9, r9, D, c, e, hj, hgk, rfl, rfl, HI, HO, HW⟩ := hrel
        have HG := Lib.hid hgk
        clear hgk I0 O0 HZS
        obtain ⟨BB, K9, t9, mp9⟩ := HI.out
        have ow := HO.out
        by_cases hlt2 : j + 1 < i
        · have hlti : (j : Int) + 1 < (i : Int) := by omega
          have hwz := HW.out
          have owl : ∀ x, ob D = some x → x < wr.heap.size := fun x hx => (ow.o.lt x (by rw [ob_eq]; exact hx)).2
          have lw : Below wr.heap.size wr wr := Below.refl _ _
          clear HI HO HW
          go_wp2_with (first | (with_reducible refine load_t rfl (.tmp 9) rfl b9 rfl K9 ?_))
          refine (resv (sg := (i : Int)) (st := st) (o := (upto i).drop (j + 1)) (l := (zeros i).drop (j + 1)) (f' := (frs F i).drop (j + 1)) (y' := 0) (drop_any (i : Int) st A9 m9 p9 B9 k9 q9 C9 n9 r9 ((upto i).drop j) ((zeros i).drop j) ((frs F i).drop j) (j : Int) _ t9 (dcy_ok (n := i) (F := F) (i := j) bn bs (by omega))) (by show tabOf (dropT (dcy i st F j) (j : Int)) = _; rw [dcy_drop hlt2]; rfl) (by show errOf (dropT (dcy i st F j) (j : Int)) 1 = 0; rw [dcy_drop hlt2]; rfl)).mono ?_
          rintro e' w18 ⟨A18, m18, p18, B18, k18, q18, C18, n18, r18, rfl, t18, mp18, fr18, hb⟩
          replace K9 := K9.later hb
          replace t9 := t9.later hb
          replace ow := ow.later hb
          replace BB := Ge.trans BB hb
          replace lw := Ge.trans lw hb
          clear hb
          have N18 : Blk (w18.alloc (.cells #[.int .i64 0, .int .i64 0, .slice none 0 0, .slice none 0 0, .slice none 0 0] 28)) w18.heap.size 28 (csT 0 0 none 0 0 none 0 0 none 0 0) := Blk.new w18 _ _
          go_upto_region 20 with (with_reducible refine store_t rfl (.tmp 18) (.tmp 123) rfl w18.heap.size rfl rfl N18 ?_)
          have hb3 : Below w18.heap.size w18 ((w18.alloc (.cells #[.int .i64 0, .int .i64 0, .slice none 0 0, .slice none 0 0, .slice none 0 0] 28)).setRow w18.heap.size (csT (i : Int) st A18 m18 p18 B18 k18 q18 C18 n18 r18)) := below_row (below1 _ _) (Nat.le_refl _) _
          have K18 : Blk ((w18.alloc (.cells #[.int .i64 0, .int .i64 0, .slice none 0 0, .slice none 0 0, .slice none 0 0] 28)).setRow w18.heap.size (csT (i : Int) st A18 m18 p18 B18 k18 q18 C18 n18 r18)) w18.heap.size 28 (csT (i : Int) st A18 m18 p18 B18 k18 q18 C18 n18 r18) := N18.row _
          replace K9 := K9.later hb3
          replace t9 := t9.later hb3
          replace ow := ow.later hb3
          replace t18 := t18.later hb3
          replace BB := Ge.trans BB hb3
          replace lw := Ge.trans lw hb3
          clear hb3 N18
          generalize (w18.alloc (.cells #[.int .i64 0, .int .i64 0, .slice none 0 0, .slice none 0 0, .slice none 0 0] 28)).setRow w18.heap.size (csT (i : Int) st A18 m18 p18 B18 k18 q18 C18 n18 r18) = y18 at *
          generalize w18.heap.size = b18 at *
          have e018 : y18.cell? ⟨b18, 0, none⟩ = some (.int .i64 (i : Int)) := K18.cell 0
          have e118 : y18.cell? ⟨b18, 1, none⟩ = some (.int .i64 st) := K18.cell 1
          have e218 : y18.cell? ⟨b18, 2, none⟩ = some (.slice A18 m18 p18) := K18.cell 2
          have e318 : y18.cell? ⟨b18, 3, none⟩ = some (.slice B18 k18 q18) := K18.cell 3
          have e418 : y18.cell? ⟨b18, 4, none⟩ = some (.slice C18 n18 r18) := K18.cell 4
          go_wp2_with (first | (with_reducible refine load_t rfl (.tmp 9) rfl b9 rfl K9 ?_) | (with_reducible refine load_t rfl (.tmp 18) rfl b18 rfl K18 ?_))
          clear e018 e118 e218 e318 e418
          refine (right_is (i : Int) st A18 m18 p18 B18 k18 q18 C18 n18 r18 ((upto i).drop (j + 1)) ((zeros i).drop (j + 1)) ((frs F i).drop (j + 1)) true _ t18 (size_le t18.a (by simp only [List.length_drop, upto_len]; omega)) (size_le t18.b (by simp only [List.length_drop, zeros_len]; omega)) (size_le t18.c (by simp only [List.length_drop, frs_len]; omega)) mp18 ((okT_iff _).2 (dcy_ok (n := i) (F := F) (i := j + 1) bn bs (by omega)))).mono ?_
          rintro e' x4 ⟨rfl, hb⟩
          replace K9 := K9.later hb
          replace t9 := t9.later hb
          replace ow := ow.later hb
          replace t18 := t18.later hb
          replace K18 := K18.later hb
          replace BB := Ge.trans BB hb
          replace lw := Ge.trans lw hb
          clear hb
          have hwl : wr.heap.size ≤ x4.heap.size := lw.size
          clear lw
          go_upto_region 23 with (first
            | (with_reducible refine load_t rfl (.tmp 18) rfl b18 rfl K18 ?_)
            | (with_reducible refine store_t rfl (.tmp 9) (.tmp 132) rfl b9 rfl rfl K9 ?_))
          have hb9 : b9 < wr.heap.size := by omega
          have BB2 : Below w.heap.size w (x4.setRow b9 (csT (i : Int) st A18 m18 p18 B18 k18 q18 C18 n18 r18)) := below_row BB hw9 _
          have K2 : Blk (x4.setRow b9 (csT (i : Int) st A18 m18 p18 B18 k18 q18 C18 n18 r18)) b9 28 (csT (i : Int) st A18 m18 p18 B18 k18 q18 C18 n18 r18) := K9.row _
          have t2 : TIn (x4.setRow b9 (csT (i : Int) st A18 m18 p18 B18 k18 q18 C18 n18 r18)) A18 m18 B18 k18 C18 n18 ((upto i).drop (j + 1)) ((zeros i).drop (j + 1)) ((frs F i).drop (j + 1)) := t18.rowF fr18 hb9
          have ow2 : OwR bs0 D c e (upto j) (x4.setRow b9 (csT (i : Int) st A18 m18 p18 B18 k18 q18 C18 n18 r18)) := ⟨own_row ow.o hbs⟩
          have hs2 : x4.heap.size ≤ (x4.setRow b9 (csT (i : Int) st A18 m18 p18 B18 k18 q18 C18 n18 r18)).heap.size := by rw [row_size]; exact Nat.le_refl _
          have hcl : c < 1000 := by have := ow.o.1; rw [iv_len, upto_len] at this; omega
          clear BB K9 t9 K18 t18 ow
          generalize x4.setRow b9 (csT (i : Int) st A18 m18 p18 B18 k18 q18 C18 n18 r18) = W9 at *
          obtain ⟨g, e2, W5, hrun, ow5, g5, hrow⟩ := ow2.push (j : Int) hcl (by omega)
          have hbb := below1 W9 (.cells #[.int .i64 (j : Int)] 3)
          have BB3 := (Ge.trans BB2 hbb).grown g5 (Ge.trans BB2 hbb).size (fun x hx => by have := (hrow x hx).1; omega)
          have K3 := blk_grown (K2.later hbb) g5 (fun e => by have := (hrow _ e.symm).1; omega)
          have hol := owl
          have t3 := (t2.later hbb).grownF fr18 g5 (fun x hx => hol x hx)
          have hs5 : bs0 ≤ W5.heap.size := by have := g5.size; simp at this; omega
          have I5 : Hid (CyI w b9 (i : Int) st A18 m18 p18 B18 k18 q18 C18 n18 r18 ((upto i).drop (j + 1)) ((zeros i).drop (j + 1)) ((frs F i).drop (j + 1)) W5) := Lib.hid ⟨BB3, K3, t3, mp18⟩
          have O5 : Hid (OwR bs0 (some ⟨g, 0, none⟩) (c + 1) e2 (upto (j + 1)) W5) := Lib.hid (by rw [upto_succ]; exact ow5)
          have S5 := Lib.hid hs5
          have HR := Lib.hid hrun
          clear BB2 K2 t2 ow2 hrun ow5 g5 hrow hbb BB3 K3 t3 hs5 hol
          go_wp2_with (at_builtin; refine list_append_run rfl (.tmp 133) (.tmp 135) 25 rfl _ _ rfl rfl HR.out ?_)
          go_roundg (i - (j + 1))
          case measure => have := HG.out; omega
          case rel => exact ⟨j + 1, _, _, _, _, _, _, _, _, _, _, _, _, by omega, rfl, by go_num, rfl, I5, O5, S5⟩
        · have Hij : Hid (i - 1 = j) := Lib.hid (by omega)
          have hlti : ¬ (j : Int) + 1 < (i : Int) := by omega
          obtain ⟨d1, d2, d3⟩ := dcy_end (n := i) (st := st) (F := F) (by omega)
          rw [Hij.out] at d1 d2 d3
          have eo : (upto i).drop j = [(i : Int) - 1] := by rw [d1, show ((j : Nat) : Int) = (i : Int) - 1 by have := Hij.out; omega]
          have DO := Lib.hid eo
          have DF : Hid (freeT ⟨(i : Int), st, (upto i).drop j, (zeros i).drop j, (frs F i).drop j⟩ = upto j) := Lib.hid d2
          have DR : Hid (roomT ⟨(i : Int), st, (upto i).drop j, (zeros i).drop j, (frs F i).drop j⟩ = (i : Int) * st) := Lib.hid d3
          have HK : Hid (okP ⟨(i : Int), st, (upto i).drop j, (zeros i).drop j, (frs F i).drop j⟩) := Lib.hid (dcy_ok (n := i) (F := F) (i := j) bn bs (by omega))
          have ml : ((upto i).drop j).length ≤ 30 := by simp only [List.length_drop, upto_len]; omega
          have ml9 := size_le t9.a ml
          have hcl : c ≤ 16 := by have := ow.o.1; rw [iv_len, upto_len] at this; omega
          have pr1 : 0 ≤ (i : Int) * st := Int.mul_nonneg (by omega) (by omega)
          have pr2 : (i : Int) * st ≤ 480 := by
            calc (i : Int) * st ≤ 16 * st := Int.mul_le_mul_of_nonneg_right (by omega) (by omega)
              _ ≤ 480 := by omega
          have u1 : ((i : Int) * st == (i : Int) * st) = true := by simp
          have ii1 : (i : Int) ≤ 16 := by omega
          have ii2 : 4 ≤ (i : Int) := by omega
          clear d1 d2 d3 eo ml HI HO HW HG
          go_wp2_with (first | (with_reducible refine load_t rfl (.tmp 9) rfl b9 rfl K9 ?_))
          refine (tfree_any (i : Int) st A9 m9 p9 B9 k9 q9 C9 n9 r9 ((upto i).drop j) ((zeros i).drop j) ((frs F i).drop j) _ t9 ml9 (by omega)).mono ?_
          rintro e' z4 ⟨Af, mf, pf, rfl, sf, hb⟩
          rw [DF.out] at sf
          replace K9 := K9.later hb
          replace t9 := t9.later hb
          replace ow := ow.later hb
          replace BB := Ge.trans BB hb
          clear hb
          go_wp2_with (first | (with_reducible refine load_t rfl (.tmp 9) rfl b9 rfl K9 ?_))
          have hmf : mf ≤ maxLen := by have := sf.len; rw [upto_len] at this; unfold maxLen; omega
          refine (ints_yes Af mf pf D c e (upto j) _ sf (own_sl ow.o) hmf).mono ?_
          rintro e' z5 ⟨rfl, hb⟩
          replace K9 := K9.later hb
          replace t9 := t9.later hb
          replace ow := ow.later hb
          replace BB := Ge.trans BB hb
          clear hb
          clear sf
          have e09 : z5.cell? ⟨b9, 0, none⟩ = some (.int .i64 (i : Int)) := K9.cell 0
          have e19 : z5.cell? ⟨b9, 1, none⟩ = some (.int .i64 st) := K9.cell 1
          have e29 : z5.cell? ⟨b9, 2, none⟩ = some (.slice A9 m9 p9) := K9.cell 2
          have e39 : z5.cell? ⟨b9, 3, none⟩ = some (.slice B9 k9 q9) := K9.cell 3
          have e49 : z5.cell? ⟨b9, 4, none⟩ = some (.slice C9 n9 r9) := K9.cell 4
          go_wp2_with (first | (with_reducible refine load_t rfl (.tmp 9) rfl b9 rfl K9 ?_))
          clear e09 e19 e29 e39 e49
          refine (room_is (i : Int) st A9 m9 p9 B9 k9 q9 C9 n9 r9 ((upto i).drop j) ((zeros i).drop j) ((frs F i).drop j) ((i : Int) * st) _ t9 HK.out DR.out).mono ?_
          rintro e' z6 ⟨rfl, hb⟩
          replace K9 := K9.later hb
          replace t9 := t9.later hb
          replace ow := ow.later hb
          replace BB := Ge.trans BB hb
          clear hb
          clear ow
          have N7 := Blk.new z6 3 #[.int .i64 ((i : Int) - 1)]
          have hb := below1 z6 (.cells #[.int .i64 ((i : Int) - 1)] 3)
          have e09 : z6.cell? ⟨b9, 0, none⟩ = some (.int .i64 (i : Int)) := K9.cell 0
          have e19 : z6.cell? ⟨b9, 1, none⟩ = some (.int .i64 st) := K9.cell 1
          have e29 : z6.cell? ⟨b9, 2, none⟩ = some (.slice A9 m9 p9) := K9.cell 2
          have e39 : z6.cell? ⟨b9, 3, none⟩ = some (.slice B9 k9 q9) := K9.cell 3
          have e49 : z6.cell? ⟨b9, 4, none⟩ = some (.slice C9 n9 r9) := K9.cell 4
          go_wp2_with (first | (with_reducible refine load_t rfl (.tmp 9) rfl b9 rfl K9 ?_))
          clear e09 e19 e29 e39 e49
          replace K9 := K9.later hb
          replace t9 := t9.later hb
          replace BB := Ge.trans BB hb
          clear hb
          have t9a := t9.a
          rw [DO.out] at t9a
          refine (ints_yes A9 m9 p9 _ 1 1 [(i : Int) - 1] _ t9a (sl_one N7) ml9).mono ?_
          rintro e' z7 ⟨rfl, hb⟩
          replace K9 := K9.later hb
          replace t9 := t9.later hb
          replace BB := Ge.trans BB hb
          clear hb
          clear t9a N7
          go_wp2_with (first | (with_reducible refine load_t rfl (.tmp 9) rfl b9 rfl K9 ?_))
          refine (fixed_any _).mono ?_
          rintro e' z8 ⟨rfl, hb⟩
          replace K9 := K9.later hb
          replace t9 := t9.later hb
          replace BB := Ge.trans BB hb
          clear hb
          go_wp2_with (first | (with_reducible refine load_t rfl (.tmp 9) rfl b9 rfl K9 ?_))
          go_ret
          exact ⟨rfl, BB⟩

set_option maxRecDepth 100000 in
theorem lifted (os : Os) (started : os.Started) (H : Type) (enc : TypeId × Value → H) :
    ReturnsInHanded {} Try.checked os 8 .any (Rows.tableCycleSpec.pre6 enc Try.prog Try.f8 Rows.tableCycleRow.domain false) (Rows.tableCycleSpec.post enc Try.prog Try.f8 false true false false) := by
  refine returnsInHanded_of_change (C := Try.checked) own started (by kernel_rfl) Try.func8
    (ChangeSpec.witness6 (enc := enc) (C := Try.checked) false ⟨#[], #[.int .u8 0, .int .u8 0, .int .u64 0], []⟩ 8 (by kernel_rfl) (by kernel_rfl) (by kernel_rfl) (by kernel_rfl)) ?_
  intro W base args ds gs before hval0 hW hcnd _
  have hval : ∀ (j : Nat) t v, Try.f8.params[j]? = some t → args[j]? = some v → Value.okWide Try.prog W .any base t v := hval0
  have hW' := hW
  obtain ⟨p, q, hA0, hV, rfl, hfz, hnd⟩ := hW
  have hA : DataW.TrodAll enc Try.prog W 0 (fun _ => true) true Try.f8.params.toList args.toList ds p := hA0
  rw [Try.params8] at hA hval
  obtain ⟨v0, vs0, d0, ds0, p0, q0, hargs, rfl, rfl, h0, r0⟩ := trodAll_cons hA
  obtain ⟨v1, vs1, d1, ds1, p1, q1, rfl, rfl, rfl, h1, r1⟩ := trodAll_cons r0
  obtain ⟨v2, vs2, d2, ds2, p2, q2, rfl, rfl, rfl, h2, r2⟩ := trodAll_cons r1
  obtain ⟨rfl, rfl, rfl⟩ := trodAll_nil r2
  obtain rfl : args = #[v0, v1, v2] := by cases args; simp_all
  obtain ⟨rfl, rfl⟩ := trodVars_none hV
  obtain ⟨a0, rfl, rfl, rfl, w0⟩ := open_int Try.underlying5 (hval 0 5 v0 rfl rfl) h0
  obtain ⟨a1, rfl, rfl, rfl, w1⟩ := open_int Try.underlying5 (hval 1 5 v1 rfl rfl) h1
  obtain ⟨a2, rfl, rfl, rfl, w2⟩ := open_int Try.underlying23 (hval 2 23 v2 rfl rfl) h2
  clear hA0 hval0
  simp only [List.append_nil] at hW'
  refine (walk a0 a1 a2 w0 w1 w2 W).mono fun e W' ⟨he, hg⟩ => ?_
  subst he
  exact ⟨_, rfl, post_plain hW' (fun _ _ _ => (trodAll_cons_mk (shut_bool Try.underlying4 _) trodAll_mk0)) (fun sp => (trodAll_cons_mk (shut_int Try.underlying5 w0) (trodAll_cons_mk (shut_int Try.underlying5 w1) (trodAll_cons_mk (shut_int Try.underlying23 w2) trodAll_mk0)))) (fun _ => rfl) hg (ok_one (by kernel_rfl) rfl (okWide_bool_mk Try.underlying4 _))⟩

theorem over : Rows.tableCycleRow.holds Try.pinned (OpenSpec.ofChange Rows.tableCycleSpec) :=
  OpenClaim.holds_of_wide 8 Try.f8 rfl rfl rfl rfl rfl rfl rfl ⟨rfl, rfl, rfl, rfl, rfl⟩ rfl rfl rfl rfl rfl (by kernel_rfl) Try.func8 (by kernel_rfl)
    (of_decide_eq_true (by kernel_rfl)) (by unfold Func.isWrapper; first | (rw [if_pos (by decide +kernel)]; kernel_rfl) | (rw [if_neg (by decide +kernel)]; exact ⟨rfl, rfl⟩))
    (fun os started H enc _ => lifted os started H enc)

theorem proved : Rows.TableCycleSaid := over
#print axioms proved
end Go.Proofs.Ytpgbbbgblgkokaa.tableCycle
