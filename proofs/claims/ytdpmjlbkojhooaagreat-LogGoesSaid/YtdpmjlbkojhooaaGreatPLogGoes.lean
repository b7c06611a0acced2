/- For every conf and every calls ahead and behind the statement LogGoes about seglog returns true, and changes nothing. Conditions: none. -/
import Derived.Test.YtdpmjlbkojhooaaGreatPLiE
import Derived.Deep.DeepCutAuto
import Derived.Deep.LoopGhost
import Derived.Deep.RegionWith
import Derived.StillTailTactics
import Derived.WalkSmall
import Derived.IntWalk
import Derived.ProofKit
import Derived.OpenShut
import Derived.ShutString
import Derived.SizedLaws
namespace Go.Proofs.YtdpmjlbkojhooaaGreat.logGoes
open Go.ChangeShapes Go.WideShapes Go.ChangeAt Go.RowKit Go.Lib Go.MapKept
open Go.ChangeMaps (open_string shut_string)
set_option linter.unusedVariables false
theorem own : ownKnob Tryz.prog.godebug = none := by kernel_rfl
theorem laid : laidOutB Tryz.prog = true := by kernel_rfl
set_option maxRecDepth 100000
open Lg
open Tb (Tab TIn Sl okP csT lastN nth Fresh)
open Dk (St Only Grew)
set_option maxHeartbeats 64000000 in
theorem walk (sg sl : Int) (x : Nat) (rt : Int) (L1 : Option Addr) (N1 c1 : Nat) (f1 : Nat → LOp) (L2 : Option Addr) (N2 c2 : Nat) (f2 : Nat → LOp) (w : World) (hx : x < 18446744073709551616) (hN1 : N1 ≤ maxLen) (hL1 : LopsIn w L1 N1 f1) (hN2 : N2 ≤ maxLen) (hL2 : LopsIn w L2 N2 f2) :
    Calls Tryz.prog 9 #[.agg #[.int .i64 sg, .int .i64 sl, .float .f64 x, .int .i64 rt], .slice L1 N1 c1, .slice L2 N2 c2] w fun e w' => e = .returned (.bool true) ∧ Below w.heap.size w w' := by
  have HL1 := Lib.hid hL1
  have HL2 := Lib.hid hL2
  clear hL1 hL2
  have N4 : Tb.Blk (w.alloc (.cells (csF sg sl x rt) 24)) w.heap.size 24 (csF sg sl x rt) := Tb.Blk.new w _ _
  have BBA := Lib.hid (Tb.below1 w (.cells (csF sg sl x rt) 24))
  go_enter Tryz.func9, Tryz.ntmps9
  go_upto_region 1 with fail
  change Code.wp _ _ _ _ (w.alloc (.cells (csF sg sl x rt) 24))
  obtain ⟨b, Eb⟩ : ∃ z, w.heap.size = z := ⟨_, rfl⟩
  have HWB : Hid (w.heap.size = b) := Lib.hid Eb
  rw [Eb] at N4 ⊢
  clear Eb
  generalize w.alloc (.cells (csF sg sl x rt) 24) = wA at *
  have HSM := Lib.hid (small_any sg sl rt x wA hx)
  obtain ⟨G, EG⟩ : ∃ z, smG sg sl x rt = z := ⟨_, rfl⟩
  obtain ⟨Z, EZ⟩ : ∃ z, smL sg sl x rt = z := ⟨_, rfl⟩
  have HSB : Hid (Ck.MayC G Z x rt → G ≤ 6 ∧ Z ≤ 5) := Lib.hid (fun h => by
    by_cases hm : Ck.MayC sg sl x rt
    · have := small_may hm
      rw [EG, EZ] at this
      exact this.2
    · exact absurd (by rw [EG, EZ]; exact h) (small_not hm))
  rw [EG, EZ] at HSM
  clear EG EZ
  go_wp2_with (with_reducible refine load_cf rfl (.tmp 3) rfl b rfl N4 ?_)
  refine HSM.out.mono ?_
  rintro e' w1 ⟨rfl, hb1⟩
  replace N4 := N4.later hb1
  replace BBA := Lib.hid (BBA.out.trans (hb1.mono BBA.out.size))
  clear HSM hb1
  go_upto_region 2 with (with_reducible refine store_cf rfl (.tmp 3) (.tmp 24) rfl b rfl rfl N4 ?_)
  replace N4 := N4.row (csF G Z x rt)
  replace BBA := Lib.hid (Tb.below_row BBA.out (show w.heap.size ≤ b by have := HWB.out; omega) (csF G Z x rt))
  generalize w1.setRow b (csF G Z x rt) = wB at *
  by_cases hm : Ck.MayC G Z x rt
  case neg =>
    have HC := Lib.hid (fun w => Ck.R4.may_no G Z rt x w hx hm)
    go_wp2_with (with_reducible refine load_cf rfl (.tmp 3) rfl b rfl N4 ?_)
    refine (HC.out _).mono ?_
    rintro e' w2 ⟨rfl, hb⟩
    have BB2 := Lib.hid (BBA.out.trans (hb.mono BBA.out.size))
    clear hb HC N4
    go_wp2_with fail
    refine (fixed_any _).mono ?_
    rintro e' w3 ⟨rfl, hb⟩
    have BB3 := Lib.hid (BB2.out.trans (hb.mono BB2.out.size))
    clear hb
    go_wp2_with fail
    go_ret
    exact ⟨rfl, BB3.out⟩
  have HB6 := HSB.out hm
  have HN0 := Lib.hid (new_yes (x := x) (rt := rt) hm HB6.1 HB6.2).2
  have HMD := Lib.hid (fun w (h : Below wB.heap.size wB w) => made_new (w0 := wB) h hx hm HB6.1 HB6.2)
  have HC := Lib.hid (fun w => Ck.R4.may_yes G Z rt x w hm)
  have HSC := Lib.hid (fun w => Ck.R4.sectors_any G Z rt x w hx)
  have HSE := Lib.hid (sc_may hm)
  clear hm HB6 HSB
  generalize Ck.scC G Z x rt = sc at *
  generalize nD G Z x rt = s0 at *
  generalize Tb.newT G Z 1 = t0 at *
  go_wp2_with (with_reducible refine load_cf rfl (.tmp 3) rfl b rfl N4 ?_)
  refine (HC.out _).mono ?_
  rintro e' w2 ⟨rfl, hb⟩
  have KEY2 : Below wB.heap.size wB w2.drew := hb.drew
  have f0 : w2.cell? ⟨b, 0, none⟩ = some (.int .i64 G) := (N4.later hb).cell 0
  have f1 : w2.cell? ⟨b, 1, none⟩ = some (.int .i64 Z) := (N4.later hb).cell 1
  have f2 : w2.cell? ⟨b, 2, none⟩ = some (.float .f64 x) := (N4.later hb).cell 2
  have f3 : w2.cell? ⟨b, 3, none⟩ = some (.int .i64 rt) := (N4.later hb).cell 3
  have KEY : Hid (∀ W', Below w2.drew.heap.size w2.drew W' → Below wB.heap.size wB W' ∧ W'.cell? ⟨b, 0, none⟩ = some (.int .i64 G) ∧ W'.cell? ⟨b, 1, none⟩ = some (.int .i64 Z) ∧ W'.cell? ⟨b, 2, none⟩ = some (.float .f64 x) ∧ W'.cell? ⟨b, 3, none⟩ = some (.int .i64 rt)) := Lib.hid (fun W' hb' => by
    have hB := KEY2.trans (hb'.mono KEY2.size)
    have M := N4.later hB
    exact ⟨hB, M.cell 0, M.cell 1, M.cell 2, M.cell 3⟩)
  clear hb HC
  have hbD : Below wB.heap.size wB w2.drew := KEY2
  go_upto_region 4 with fail
  go_cut [7, 8, 9] from 29 to 36 (fun s5 s6 s7 wx => ∃ g d, s5 = .pointer (some ⟨g, 0, none⟩) ∧ s6 = .pointer (some ⟨d, 0, none⟩) ∧ s7 = .int .i64 0 ∧ Dk.Sep wB wx [Dk.diskI d s0, PLog g d t0 1 1 1])
  case first =>
    go_region_with (first
      | (go_at_call 21; refine (HSC.out _).mono ?_; rintro e5 w5 ⟨rfl, hb5⟩; obtain ⟨e51, e52, e53, e54, e55⟩ := KEY.out w5 hb5)
      | (go_at_call 11; refine (HMD.out _ (by assumption)).mono ?_; rintro e6 w6 ⟨g, d, rfl, h6⟩))
    all_goals
      go_wp2_with fail
      go_meet
      exact ⟨_, _, rfl, rfl, rfl, h6⟩
  case rest =>
  obtain ⟨g, d, rfl, rfl, rfl, h3⟩ := hcut
  clear KEY KEY2 f0 f1 f2 f3 HMD hbD
  have hZ5 := HN0.out.z
  have hG6 := HN0.out.g
  have hsc : 2 ≤ sc ∧ sc ≤ 38 := by
    rw [HSE.out]
    have a1 := Int.mul_nonneg (show 0 ≤ G by omega) (show 0 ≤ Z + 1 by omega)
    have a2 := Int.mul_le_mul (show G ≤ 6 by omega) (show Z + 1 ≤ 6 by omega) (by omega) (by omega)
    omega
  have HP0 : Hid (LogP (2 * 0) t0 s0 1 1 ∧ s0.set = false ∧ s0.size = sc) := Lib.hid ⟨HN0.out.p, HN0.out.set, HN0.out.size.trans HSE.out.symm⟩
  have h4 := Lib.hid h3
  clear h3 HN0
  go_wp2_with fail
  go_loopg [10] 40 (fun gk s10 wr => ∃ (i : Nat) (s1 : St) (t1 : Tab) (l1 g1 : Int), i ≤ 40 ∧ gk = 40 - i ∧ s10 = .int .i64 (i : Nat) ∧ Hid (LogP (2 * i) t1 s1 l1 g1 ∧ s1.set = false ∧ s1.size = sc) ∧ Hid (Dk.Sep wB wr [Dk.diskI d s1, PLog g d t1 l1 1 g1]))
  case atStart => exact ⟨0, _, _, _, _, by omega, rfl, rfl, HP0, h4⟩
  case round =>
    obtain ⟨i, s1, t1, l1, g1, hi, hgk, rfl, HP, HI⟩ := hrel
    have HG := Lib.hid hgk
    clear hgk h4 HP0
    by_cases hgo : (i : Int) < (N1 : Int) ∧ (i : Int) < 40
    · have hlti : (i : Int) < (N1 : Int) := hgo.1
      have h40 : (i : Int) < 40 := hgo.2
      have hlt : i < N1 := by omega
      obtain ⟨ab, off, rfl, hab, hops⟩ := HL1.out.2 (by omega)
      have BBR : Below w.heap.size w wr := BBA.out.trans (HI.out.below.mono BBA.out.size)
      have HO := Lib.hid (HL1.out.1 i hlt)
      obtain ⟨⟨s3, t3, l3, g3, p1, p2, er⟩, EZ⟩ : ∃ z, actS t1 s1 l1 1 g1 (f1 i) = z := ⟨_, rfl⟩
      have HA := Lib.hid (act_fix HI.out (k := 0) (j := 1) rfl rfl (by decide) HP.out.1 (show 2 * i ≤ 1000 by omega) HP.out.2.1 (f1 i) HO.out)
      have HP2 : Hid (LogP (2 * (i + 1)) t3 s3 l3 g3 ∧ s3.set = false ∧ s3.size = sc) := Lib.hid (by
        have e1 := act_p (ep := 1) (o := f1 i) HP.out.1
        have e2 := (act_set (t := t1) (ls := l1) (ep := 1) (gn := g1) (o := f1 i) HP.out.2.1).1
        have e3 := act_size (t := t1) (s := s1) (ls := l1) (ep := 1) (gn := g1) (o := f1 i)
        rw [EZ] at e1 e2 e3
        exact ⟨e1, e2, e3.trans HP.out.2.2⟩)
      rw [EZ] at HA
      have d0 : wr.cell? ⟨ab, off + i * 10, none⟩ = some (.int .i64 (f1 i).k) := (BBR.cell (p := ⟨ab, off + i * 10, none⟩) hab).trans (hops i hlt 0 (by omega))
      have d1 : wr.cell? ⟨ab, off + i * 10 + 1, none⟩ = some (.int .u64 (f1 i).l) := (BBR.cell (p := ⟨ab, off + i * 10 + 1, none⟩) hab).trans (hops i hlt 1 (by omega))
      have d2 : wr.cell? ⟨ab, off + i * 10 + 2, none⟩ = some (.int .u32 (f1 i).e) := (BBR.cell (p := ⟨ab, off + i * 10 + 2, none⟩) hab).trans (hops i hlt 2 (by omega))
      have d3 : wr.cell? ⟨ab, off + i * 10 + 3, none⟩ = some (.int .i64 (f1 i).rk) := (BBR.cell (p := ⟨ab, off + i * 10 + 3, none⟩) hab).trans (hops i hlt 3 (by omega))
      have d4 : wr.cell? ⟨ab, off + i * 10 + 4, none⟩ = some (.int .u64 (f1 i).v) := (BBR.cell (p := ⟨ab, off + i * 10 + 4, none⟩) hab).trans (hops i hlt 4 (by omega))
      have d5 : wr.cell? ⟨ab, off + i * 10 + 5, none⟩ = some (.int .u64 (f1 i).d) := (BBR.cell (p := ⟨ab, off + i * 10 + 5, none⟩) hab).trans (hops i hlt 5 (by omega))
      have d6 : wr.cell? ⟨ab, off + i * 10 + 6, none⟩ = some (.string (f1 i).i) := (BBR.cell (p := ⟨ab, off + i * 10 + 6, none⟩) hab).trans (hops i hlt 6 (by omega))
      have d7 : wr.cell? ⟨ab, off + i * 10 + 7, none⟩ = some (.string (f1 i).a) := (BBR.cell (p := ⟨ab, off + i * 10 + 7, none⟩) hab).trans (hops i hlt 7 (by omega))
      have d8 : wr.cell? ⟨ab, off + i * 10 + 8, none⟩ = some (.int .i64 (f1 i).n) := (BBR.cell (p := ⟨ab, off + i * 10 + 8, none⟩) hab).trans (hops i hlt 8 (by omega))
      have d9 : wr.cell? ⟨ab, off + i * 10 + 9, none⟩ = some (.int .u64 (f1 i).u) := (BBR.cell (p := ⟨ab, off + i * 10 + 9, none⟩) hab).trans (hops i hlt 9 (by omega))
      clear BBR hops EZ
      go_wp2_with fail
      refine HA.out.mono ?_
      rintro e' w5 ⟨rfl, h5⟩
      have HI2 : Hid (Dk.Sep wB w5 [Dk.diskI d s3, PLog g d t3 l3 1 g3]) := Lib.hid h5
      clear HA HI HP h5 d0 d1 d2 d3 d4 d5 d6 d7 d8 d9
      go_wp2_with fail
      go_roundg (40 - (i + 1))
      case measure => have := HG.out; omega
      case rel => exact ⟨i + 1, s3, t3, l3, g3, by omega, rfl, by go_num, HP2, HI2⟩
    · go_upto_region 8 with fail
      go_cut [54] from 47 to 53 (fun s54 wx => s54 = .bool false ∧ wr = wx)
      case first =>
        by_cases hlt : (i : Int) < (N1 : Int)
        · have q1 : decide ((i : Int) < (N1 : Int)) = true := decide_eq_true hlt
          have q2 : decide ((i : Int) < 40) = false := decide_eq_false (fun h => hgo ⟨hlt, h⟩)
          have q3 : ¬ (i : Int) < 40 := fun h => hgo ⟨hlt, h⟩
          clear hgo
          go_wp2_with fail
          go_meet
          exact ⟨rfl, rfl⟩
        · have q1 : decide ((i : Int) < (N1 : Int)) = false := decide_eq_false hlt
          clear hgo
          go_wp2_with fail
          go_meet
          exact ⟨rfl, rfl⟩
      case rest =>
      obtain ⟨rfl, rfl⟩ := hcut
      clear hgo
      have HPL : Hid (s1.pend.length < 1048576) := Lib.hid (by have := HP.out.1.pend; omega)
      go_wp2_with fail
      refine (copy_s HI.out (k := 0) rfl HPL.out).mono ?_
      rintro e' w5 ⟨x2, rfl, h5⟩
      have H5 : Hid (Dk.Sep wB w5 [Dk.diskI d s1, PLog g d t1 l1 1 g1, Dk.diskI x2 s1]) := Lib.hid h5
      clear HI h5
      go_wp2_with fail
      refine (tab_at H5.out (j := 1) rfl).mono ?_
      rintro e' w6 ⟨A, m9, p9, B, k9, q9, C, n9, r9, rfl, ht, hb, h6⟩
      have HT := Lib.hid ht
      have H6 := Lib.hid h6
      clear ht hb h6 H5
      go_wp2_with fail
      refine (prg.lsn H6.out (j := 1) rfl).mono ?_
      rintro e' w7 ⟨rfl, hb⟩
      have HT7 := Lib.hid (HT.out.later hb)
      have H7 := Lib.hid (H6.out.later hb)
      clear HT H6 hb
      go_wp2_with fail
      refine (prg.epoch H7.out (j := 1) rfl).mono ?_
      rintro e' w8 ⟨rfl, hb⟩
      have HT8 := Lib.hid (HT7.out.later hb)
      have H8 := Lib.hid (H7.out.later hb)
      clear HT7 H7 hb
      go_wp2_with fail
      refine (prg.gen H8.out (j := 1) rfl).mono ?_
      rintro e' w9 ⟨rfl, hb⟩
      have HT9 := Lib.hid (HT8.out.later hb)
      have H9 := Lib.hid (H8.out.later hb)
      clear HT8 H8 hb
      go_wp2_with fail
      refine (at_fix (p := p9) (q := q9) (r := r9) H9.out HT9.out HP.out.1.ok x2 l1 g1).mono ?_
      rintro e' w10 ⟨g2, rfl, h10⟩
      have H10 : Hid (Dk.Sep wB w10 [Dk.diskI d s1, PLog g d t1 l1 1 g1, Dk.diskI x2 s1, PLog g2 x2 t1 l1 1 g1]) := Lib.hid h10
      have HP1 : Hid (LogP (80 + 2 * 0) t1 s1 l1 g1 ∧ s1.set = false ∧ s1.size = sc) := Lib.hid ⟨HP.out.1.le (by omega), HP.out.2⟩
      clear HT9 H9 h10 HP HPL
      go_wp2_with fail
      go_loopg [13] 20 (fun gk2 s13 wr2 => ∃ (i : Nat) (s2 : St) (t2 : Tab) (l2 g22 : Int), i ≤ 20 ∧ gk2 = 20 - i ∧ s13 = .int .i64 (i : Nat) ∧ Hid (LogP (80 + 2 * i) t2 s2 l2 g22 ∧ s2.set = false ∧ s2.size = sc) ∧ Hid (Dk.Sep wB wr2 [Dk.diskI d s2, PLog g d t2 l2 1 g22, Dk.diskI x2 s2, PLog g2 x2 t2 l2 1 g22]))
      case atStart => exact ⟨0, _, _, _, _, by omega, rfl, rfl, HP1, H10⟩
      case round =>
        obtain ⟨i, s2, t2, l2, g22, hi2, hgk2, rfl, HP2, HI2⟩ := hrel
        have HG2 := Lib.hid hgk2
        clear hgk2 H10 HP1
        by_cases hgo : (i : Int) < (N2 : Int) ∧ (i : Int) < 20
        · have hlti : (i : Int) < (N2 : Int) := hgo.1
          have h40 : (i : Int) < 20 := hgo.2
          have hlt : i < N2 := by omega
          obtain ⟨ab, off, rfl, hab, hops0⟩ := HL2.out.2 (by omega)
          have HOPS := Lib.hid hops0
          clear hops0
          have BBR : Below w.heap.size w wr := BBA.out.trans (HI2.out.below.mono BBA.out.size)
          have HO := Lib.hid (HL2.out.1 i hlt)
          obtain ⟨⟨s3, t3, l3, g3, p1, p2, er⟩, EZ⟩ : ∃ z, actS t2 s2 l2 1 g22 (f2 i) = z := ⟨_, rfl⟩
          have HA := Lib.hid (act_fix HI2.out (k := 0) (j := 1) rfl rfl (by decide) HP2.out.1 (show 80 + 2 * i ≤ 1000 by omega) HP2.out.2.1 (f2 i) HO.out)
          have HB : Hid (∀ w L, Dk.Sep wB w [Dk.diskI d s3, PLog g d t3 l3 1 g3, Dk.diskI x2 s2, PLog g2 x2 t2 l2 1 g22, locI L] → Calls Tryz.prog 44 #[.pointer (some ⟨g2, 0, none⟩), .agg #[.int .i64 (f2 i).k, .int .u64 (f2 i).l, .int .u32 (f2 i).e, .int .i64 (f2 i).rk, .int .u64 (f2 i).v, .int .u64 (f2 i).d, .string (f2 i).i, .string (f2 i).a, .int .i64 (f2 i).n, .int .u64 (f2 i).u]] w fun e w' =>
              e = .returned (.tuple #[.agg #[.int .i64 p1, .int .i64 p2], .int .i64 er]) ∧ Dk.Sep wB w' [Dk.diskI d s3, PLog g d t3 l3 1 g3, Dk.diskI x2 s3, PLog g2 x2 t3 l3 1 g3, locI L]) := Lib.hid (fun w L h => by
            have := act_fix h (k := 2) (j := 3) rfl rfl (by decide) HP2.out.1 (show 80 + 2 * i ≤ 1000 by omega) HP2.out.2.1 (f2 i) HO.out
            rw [EZ] at this
            exact this)
          have HP3 : Hid (LogP (80 + 2 * (i + 1)) t3 s3 l3 g3 ∧ s3.set = false ∧ s3.size = sc) := Lib.hid (by
            have e1 := act_p (ep := 1) (o := f2 i) HP2.out.1
            have e2 := (act_set (t := t2) (ls := l2) (ep := 1) (gn := g22) (o := f2 i) HP2.out.2.1).1
            have e3 := act_size (t := t2) (s := s2) (ls := l2) (ep := 1) (gn := g22) (o := f2 i)
            rw [EZ] at e1 e2 e3
            exact ⟨e1, e2, e3.trans HP2.out.2.2⟩)
          rw [EZ] at HA
          have d0 : wr.cell? ⟨ab, off + i * 10, none⟩ = some (.int .i64 (f2 i).k) := (BBR.cell (p := ⟨ab, off + i * 10, none⟩) hab).trans (HOPS.out i hlt 0 (by omega))
          have d1 : wr.cell? ⟨ab, off + i * 10 + 1, none⟩ = some (.int .u64 (f2 i).l) := (BBR.cell (p := ⟨ab, off + i * 10 + 1, none⟩) hab).trans (HOPS.out i hlt 1 (by omega))
          have d2 : wr.cell? ⟨ab, off + i * 10 + 2, none⟩ = some (.int .u32 (f2 i).e) := (BBR.cell (p := ⟨ab, off + i * 10 + 2, none⟩) hab).trans (HOPS.out i hlt 2 (by omega))
          have d3 : wr.cell? ⟨ab, off + i * 10 + 3, none⟩ = some (.int .i64 (f2 i).rk) := (BBR.cell (p := ⟨ab, off + i * 10 + 3, none⟩) hab).trans (HOPS.out i hlt 3 (by omega))
          have d4 : wr.cell? ⟨ab, off + i * 10 + 4, none⟩ = some (.int .u64 (f2 i).v) := (BBR.cell (p := ⟨ab, off + i * 10 + 4, none⟩) hab).trans (HOPS.out i hlt 4 (by omega))
          have d5 : wr.cell? ⟨ab, off + i * 10 + 5, none⟩ = some (.int .u64 (f2 i).d) := (BBR.cell (p := ⟨ab, off + i * 10 + 5, none⟩) hab).trans (HOPS.out i hlt 5 (by omega))
          have d6 : wr.cell? ⟨ab, off + i * 10 + 6, none⟩ = some (.string (f2 i).i) := (BBR.cell (p := ⟨ab, off + i * 10 + 6, none⟩) hab).trans (HOPS.out i hlt 6 (by omega))
          have d7 : wr.cell? ⟨ab, off + i * 10 + 7, none⟩ = some (.string (f2 i).a) := (BBR.cell (p := ⟨ab, off + i * 10 + 7, none⟩) hab).trans (HOPS.out i hlt 7 (by omega))
          have d8 : wr.cell? ⟨ab, off + i * 10 + 8, none⟩ = some (.int .i64 (f2 i).n) := (BBR.cell (p := ⟨ab, off + i * 10 + 8, none⟩) hab).trans (HOPS.out i hlt 8 (by omega))
          have d9 : wr.cell? ⟨ab, off + i * 10 + 9, none⟩ = some (.int .u64 (f2 i).u) := (BBR.cell (p := ⟨ab, off + i * 10 + 9, none⟩) hab).trans (HOPS.out i hlt 9 (by omega))
          clear BBR EZ
          go_wp2_with fail
          refine HA.out.mono ?_
          rintro e' w5 ⟨rfl, h5⟩
          replace h5 : Dk.Sep wB w5 [Dk.diskI d s3, PLog g d t3 l3 1 g3, Dk.diskI x2 s2, PLog g2 x2 t2 l2 1 g22] := h5
          clear HA HI2 HP2 d0 d1 d2 d3 d4 d5 d6 d7 d8 d9
          go_upto_region 21 with fail
          have M14 : Tb.Blk (w5.alloc (.cells #[.int .i64 p1, .int .i64 p2] 67)) w5.heap.size 67 #[.int .i64 p1, .int .i64 p2] := Tb.Blk.new w5 _ _
          have h6 := loc_new (l := [(w5.heap.size, 67, #[.int .i64 p1, .int .i64 p2])]) h5 (Tb.below1 w5 (.cells #[.int .i64 p1, .int .i64 p2] 67)) (fun x hx => by rcases List.mem_cons.1 hx with rfl | hx; exact M14; cases hx) (fun x hx => by rcases List.mem_cons.1 hx with rfl | hx; exact Nat.le_refl _; cases hx)
          replace h6 : Dk.Sep wB (w5.alloc (.cells #[.int .i64 p1, .int .i64 p2] 67)) [Dk.diskI d s3, PLog g d t3 l3 1 g3, Dk.diskI x2 s2, PLog g2 x2 t2 l2 1 g22, locI [(w5.heap.size, 67, #[.int .i64 p1, .int .i64 p2])]] := h6
          clear M14 h5
          generalize w5.alloc (.cells #[.int .i64 p1, .int .i64 p2] 67) = w6 at *
          generalize w5.heap.size = b14 at *
          have BBR : Below w.heap.size w w6 := BBA.out.trans (h6.below.mono BBA.out.size)
          have hops := HOPS.out
          have HA := Lib.hid (HB.out _ _ h6)
          have d0 : w6.cell? ⟨ab, off + i * 10, none⟩ = some (.int .i64 (f2 i).k) := (BBR.cell (p := ⟨ab, off + i * 10, none⟩) hab).trans (hops i hlt 0 (by omega))
          have d1 : w6.cell? ⟨ab, off + i * 10 + 1, none⟩ = some (.int .u64 (f2 i).l) := (BBR.cell (p := ⟨ab, off + i * 10 + 1, none⟩) hab).trans (hops i hlt 1 (by omega))
          have d2 : w6.cell? ⟨ab, off + i * 10 + 2, none⟩ = some (.int .u32 (f2 i).e) := (BBR.cell (p := ⟨ab, off + i * 10 + 2, none⟩) hab).trans (hops i hlt 2 (by omega))
          have d3 : w6.cell? ⟨ab, off + i * 10 + 3, none⟩ = some (.int .i64 (f2 i).rk) := (BBR.cell (p := ⟨ab, off + i * 10 + 3, none⟩) hab).trans (hops i hlt 3 (by omega))
          have d4 : w6.cell? ⟨ab, off + i * 10 + 4, none⟩ = some (.int .u64 (f2 i).v) := (BBR.cell (p := ⟨ab, off + i * 10 + 4, none⟩) hab).trans (hops i hlt 4 (by omega))
          have d5 : w6.cell? ⟨ab, off + i * 10 + 5, none⟩ = some (.int .u64 (f2 i).d) := (BBR.cell (p := ⟨ab, off + i * 10 + 5, none⟩) hab).trans (hops i hlt 5 (by omega))
          have d6 : w6.cell? ⟨ab, off + i * 10 + 6, none⟩ = some (.string (f2 i).i) := (BBR.cell (p := ⟨ab, off + i * 10 + 6, none⟩) hab).trans (hops i hlt 6 (by omega))
          have d7 : w6.cell? ⟨ab, off + i * 10 + 7, none⟩ = some (.string (f2 i).a) := (BBR.cell (p := ⟨ab, off + i * 10 + 7, none⟩) hab).trans (hops i hlt 7 (by omega))
          have d8 : w6.cell? ⟨ab, off + i * 10 + 8, none⟩ = some (.int .i64 (f2 i).n) := (BBR.cell (p := ⟨ab, off + i * 10 + 8, none⟩) hab).trans (hops i hlt 8 (by omega))
          have d9 : w6.cell? ⟨ab, off + i * 10 + 9, none⟩ = some (.int .u64 (f2 i).u) := (BBR.cell (p := ⟨ab, off + i * 10 + 9, none⟩) hab).trans (hops i hlt 9 (by omega))
          clear BBR hops h6 HB
          go_wp2_with fail
          refine HA.out.mono ?_
          rintro e' w7 ⟨rfl, h7⟩
          clear HA d0 d1 d2 d3 d4 d5 d6 d7 d8 d9
          go_upto_region 22 with fail
          have M14 : Tb.Blk w7 b14 67 #[.int .i64 p1, .int .i64 p2] := loc_at h7 (k := 4) rfl _ (List.mem_cons_self ..)
          have M14b := M14.later (Tb.below1 w7 (.cells #[.int .i64 p1, .int .i64 p2] 67))
          have M16 : Tb.Blk (w7.alloc (.cells #[.int .i64 p1, .int .i64 p2] 67)) w7.heap.size 67 #[.int .i64 p1, .int .i64 p2] := Tb.Blk.new w7 _ _
          have H8 : Hid (Dk.Sep wB (w7.alloc (.cells #[.int .i64 p1, .int .i64 p2] 67)) [Dk.diskI d s3, PLog g d t3 l3 1 g3, Dk.diskI x2 s3, PLog g2 x2 t3 l3 1 g3]) := Lib.hid (loc_drop (h7.alloc _))
          clear M14 h7
          generalize w7.alloc (.cells #[.int .i64 p1, .int .i64 p2] 67) = w8 at *
          generalize w7.heap.size = b16 at *
          have c0 : w8.cell? ⟨b14, 0, none⟩ = some (.int .i64 p1) := M14b.cell 0
          have c1 : w8.cell? ⟨b14, 1, none⟩ = some (.int .i64 p2) := M14b.cell 1
          have c2 : w8.cell? ⟨b16, 0, none⟩ = some (.int .i64 p1) := M16.cell 0
          have c3 : w8.cell? ⟨b16, 1, none⟩ = some (.int .i64 p2) := M16.cell 1
          clear M14b M16
          go_wp2_with fail
          refine (lsn_at H8.out (j := 1) rfl).mono ?_
          rintro e' w9 ⟨rfl, h9⟩
          have H9 := Lib.hid h9
          clear h9 H8 c0 c1 c2 c3
          go_wp2_with fail
          refine (lsn_at H9.out (j := 3) rfl).mono ?_
          rintro e' w10 ⟨rfl, h10⟩
          have H10 := Lib.hid h10
          clear h10 H9
          go_wp2_with fail
          refine (gen_at H10.out (j := 1) rfl).mono ?_
          rintro e' w11 ⟨rfl, h11⟩
          have H11 := Lib.hid h11
          clear h11 H10
          go_wp2_with fail
          refine (gen_at H11.out (j := 3) rfl).mono ?_
          rintro e' w12 ⟨rfl, h12⟩
          have H12 := Lib.hid h12
          clear h12 H11
          go_wp2_with fail
          refine (tab_at H12.out (j := 1) rfl).mono ?_
          rintro e' w13 ⟨A, m9, p9, B, k9, q9, C, n9, r9, rfl, ht, hb, h13⟩
          have HT13 := Lib.hid ht
          have H13 := Lib.hid h13
          clear ht hb h13 H12
          go_wp2_with fail
          refine (Tb.ref_any t3.sg t3.st A m9 p9 B k9 q9 C n9 r9 w13).mono ?_
          rintro e' w14 ⟨rfl, hb⟩
          have HT14 := Lib.hid (HT13.out.later hb)
          have H14 := Lib.hid (H13.out.later hb)
          clear hb H13 HT13
          go_wp2_with fail
          refine (tab_at H14.out (j := 3) rfl).mono ?_
          rintro e' w15 ⟨A2, m8, p8, B2, k8, q8, C2, n8, r8, rfl, ht, hb, h15⟩
          have HT15 := Lib.hid (HT14.out.later hb)
          have HU15 := Lib.hid ht
          have H15 := Lib.hid h15
          clear ht hb h15 H14 HT14
          go_wp2_with fail
          refine (Tb.ref_any t3.sg t3.st A2 m8 p8 B2 k8 q8 C2 n8 r8 w15).mono ?_
          rintro e' w16 ⟨rfl, hb⟩
          have HT16 := Lib.hid (HT15.out.later hb)
          have HU16 := Lib.hid (HU15.out.later hb)
          have H16 := Lib.hid (H15.out.later hb)
          clear hb H15 HT15 HU15
          go_wp2_with fail
          refine (same_tab (p0 := p9) (q0 := q9) (r0 := r9) (p1 := p8) (q1 := q8) (r1 := r8) HT16.out HU16.out HP3.out.1.ok).mono ?_
          rintro e' w17 ⟨rfl, hb⟩
          have H17 := Lib.hid (H16.out.later hb)
          clear hb H16 HT16 HU16
          go_wp2_with fail
          go_roundg (20 - (i + 1))
          case measure => have := HG2.out; omega
          case rel => exact ⟨i + 1, s3, t3, l3, g3, by omega, rfl, by go_num, HP3, H17⟩
        · go_upto_region 18 with fail
          go_cut [86] from 79 to 85 (fun s86 wx => s86 = .bool false ∧ wr = wx)
          case first =>
            by_cases hlt : (i : Int) < (N2 : Int)
            · have q1 : decide ((i : Int) < (N2 : Int)) = true := decide_eq_true hlt
              have q2 : decide ((i : Int) < 20) = false := decide_eq_false (fun h => hgo ⟨hlt, h⟩)
              have q3 : ¬ (i : Int) < 20 := fun h => hgo ⟨hlt, h⟩
              clear hgo
              go_wp2_with fail
              go_meet
              exact ⟨rfl, rfl⟩
            · have q1 : decide ((i : Int) < (N2 : Int)) = false := decide_eq_false hlt
              clear hgo
              go_wp2_with fail
              go_meet
              exact ⟨rfl, rfl⟩
          case rest =>
          obtain ⟨rfl, rfl⟩ := hcut
          clear hgo
          go_wp2_with fail
          go_loopg [18] 38 (fun gk3 s18 wr3 => ∃ i : Nat, (i : Int) ≤ sc ∧ gk3 = 38 - i ∧ s18 = .int .i64 (i : Nat) ∧ Hid (Dk.Sep wB wr3 [Dk.diskI d s2, PLog g d t2 l2 1 g22, Dk.diskI x2 s2, PLog g2 x2 t2 l2 1 g22]))
          case atStart => exact ⟨0, by omega, rfl, rfl, HI2⟩
          case round =>
            obtain ⟨i, hi3, hgk3, rfl, HI3⟩ := hrel
            have HG3 := Lib.hid hgk3
            clear hgk3 HI2
            have M4 := N4.later HI3.out.below
            go_wp2_with (with_reducible refine load_cf rfl (.tmp 3) rfl b rfl M4 ?_)
            refine (HSC.out _).mono ?_
            rintro e' w5 ⟨rfl, hb⟩
            have H5 := Lib.hid (HI3.out.later hb)
            clear hb HI3 M4
            by_cases hlt : (i : Int) < sc
            · have q1 : decide ((i : Int) < sc) = true := decide_eq_true hlt
              have HH : Hid (s2.has i) := Lib.hid ⟨by omega, by rw [HP2.out.2.2]; exact hlt⟩
              go_wp2_with fail
              refine (dread_at H5.out (k := 0) rfl (i : Int) HH.out).mono ?_
              rintro e' w6 ⟨rfl, h6⟩
              have HR := Lib.hid (dread_at h6 (k := 2) rfl (i : Int) HH.out)
              generalize s2.cur (i : Int) = X at *
              clear h6 H5 HH
              go_wp2_with fail
              refine HR.out.mono ?_
              rintro e' w7 ⟨rfl, h7⟩
              have H7 := Lib.hid h7
              clear h7 HR
              go_wp2_with fail
              go_roundg (38 - (i + 1))
              case measure => have := HG3.out; omega
              case rel => exact ⟨i + 1, by omega, rfl, by go_num, H7⟩
            · have q1 : decide ((i : Int) < sc) = false := decide_eq_false hlt
              go_wp2_with fail
              refine (epoch_at H5.out (j := 1) rfl).mono ?_
              rintro e' w6 ⟨rfl, h6⟩
              have H6 := Lib.hid h6
              clear h6 H5
              go_wp2_with fail
              refine (epoch_at H6.out (j := 3) rfl).mono ?_
              rintro e' w7 ⟨rfl, h7⟩
              have BB7 := Lib.hid (BBA.out.trans (h7.below.mono BBA.out.size))
              clear h7 H6
              go_wp2_with fail
              refine (fixed_any _).mono ?_
              rintro e' w8 ⟨rfl, hb⟩
              have BB8 := Lib.hid (BB7.out.trans (hb.mono BB7.out.size))
              clear hb
              go_wp2_with fail
              go_ret
              exact ⟨rfl, BB8.out⟩
set_option maxRecDepth 100000 in
theorem lifted (os : Os) (started : os.Started) (H : Type) (enc : TypeId × Value → H) :
    ReturnsInHanded {} Tryz.checked os 9 .any (Rows.logGoesSpec.pre6 enc Tryz.prog Tryz.f9 Rows.logGoesRow.domain false) (Rows.logGoesSpec.post enc Tryz.prog Tryz.f9 false true false false) := by
  refine returnsInHanded_of_change (C := Tryz.checked) own started (by kernel_rfl) Tryz.func9
    (ChangeSpec.witness6 (enc := enc) (C := Tryz.checked) false ⟨#[], #[.agg #[.int .i64 0, .int .i64 0, .float .f64 0, .int .i64 0], .slice none 0 0, .slice none 0 0], []⟩ 8 (by kernel_rfl) (by kernel_rfl) (by kernel_rfl) (by kernel_rfl)) ?_
  intro W base args ds gs before hval0 hW hcnd _
  have hval : ∀ (j : Nat) t v, Tryz.f9.params[j]? = some t → args[j]? = some v → Value.okWide Tryz.prog W .any base t v := hval0
  have hW' := hW
  obtain ⟨p, q, hA0, hV, rfl, hfz, hnd⟩ := hW
  have hA : DataW.TrodAll enc Tryz.prog W 0 (fun _ => true) true Tryz.f9.params.toList args.toList ds p := hA0
  rw [Tryz.params9] at hA hval
  obtain ⟨v0, vs0, d0, ds0, p0, q0, hargs, rfl, rfl, h0, r0⟩ := trodAll_cons hA
  obtain ⟨v1, vs1, d1, ds1, p1, q1, rfl, rfl, rfl, h1, r1⟩ := trodAll_cons r0
  obtain ⟨v2, vs2, d2, ds2, p2, q2, rfl, rfl, rfl, h2, r2⟩ := trodAll_cons r1
  obtain ⟨rfl, rfl, rfl⟩ := trodAll_nil r2
  obtain rfl : args = #[v0, v1, v2] := by cases args; simp_all
  obtain ⟨rfl, rfl⟩ := trodVars_none hV
  obtain ⟨sg0, sl0, x0, rt0, rfl, hx0⟩ := Lg.open_conf (hval 0 24 v0 rfl rfl) h0
  obtain ⟨L1, N1, c1, f1, rfl, hN1, hL1⟩ := Lg.open_lops (hval 1 25 v1 rfl rfl) h1
  obtain ⟨L2, N2, c2, f2, rfl, hN2, hL2⟩ := Lg.open_lops (hval 2 25 v2 rfl rfl) h2
  clear hA0 hval0
  try simp only [List.append_nil] at hW'
  try simp only [List.nil_append] at hW'
  have hlt := fun x hx => hW'.lt x hx
  refine (walk sg0 sl0 x0 rt0 L1 N1 c1 f1 L2 N2 c2 f2 W hx0 hN1 hL1 hN2 hL2).mono fun e W' ⟨he, hg⟩ => ?_
  subst he
  refine ⟨_, rfl, post_mem hW' (fun _ _ _ => (trodAll_cons_mk (shut_bool Tryz.underlying4 _) trodAll_mk0)) (fun sp hsp => ?_) (fun _ => rfl) hg (ok_one (by kernel_rfl) rfl (okWide_bool_mk Tryz.underlying4 _))⟩
  have hall := (trodAll_cons_mk (arg_same (sp := sp) laid (by kernel_rfl) (of_decide_eq_true (by kernel_rfl)) h0 hg (by intro x hx; simp_all) hlt hsp) (trodAll_cons_mk (arg_same (sp := sp) laid (by kernel_rfl) (of_decide_eq_true (by kernel_rfl)) h1 hg (by intro x hx; simp_all) hlt hsp) (trodAll_cons_mk (arg_same (sp := sp) laid (by kernel_rfl) (of_decide_eq_true (by kernel_rfl)) h2 hg (by intro x hx; simp_all) hlt hsp) trodAll_mk0)))
  try simp only [List.append_nil] at hall
  try simp only [List.nil_append] at hall
  exact hall
theorem over : Rows.logGoesRow.holds Tryz.pinned (OpenSpec.ofChange Rows.logGoesSpec) :=
  OpenClaim.holds_of_wide 9 Tryz.f9 rfl rfl rfl rfl rfl rfl rfl ⟨rfl, rfl, rfl, rfl, rfl⟩ rfl rfl rfl rfl rfl (by kernel_rfl) Tryz.func9 (by kernel_rfl)
    (of_decide_eq_true (by kernel_rfl)) (by unfold Func.isWrapper; first | (rw [if_pos (by decide +kernel)]; kernel_rfl) | (rw [if_neg (by decide +kernel)]; exact ⟨rfl, rfl⟩))
    (fun os started H enc _ => lifted os started H enc)
theorem proved : Rows.LogGoesSaid := over
#print axioms proved
end Go.Proofs.YtdpmjlbkojhooaaGreat.logGoes
