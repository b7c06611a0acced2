/- For every conf and every limit the statement LogDead about seglog returns true, and changes nothing. Conditions: none. -/
import Derived.Test.YtdpmjlbkojhooaaGreatPLiB
import Derived.Deep.DeepCutAuto
import Derived.Deep.LoopGhost
import Derived.Deep.RegionWith
import Derived.StillTailTactics
import Derived.WalkSmall
import Derived.IntWalk
import Derived.ProofKit
import Derived.OpenShut
import Derived.ShutString
import Derived.SizedLaws
namespace Go.Proofs.YtdpmjlbkojhooaaGreat.logDead
open Go.ChangeShapes Go.WideShapes Go.ChangeAt Go.RowKit Go.Lib Go.MapKept
open Go.ChangeMaps (open_string shut_string)
set_option linter.unusedVariables false
theorem own : ownKnob Tryz.prog.godebug = none := by kernel_rfl
theorem laid : laidOutB Tryz.prog = true := by kernel_rfl
set_option maxRecDepth 100000
open Lg
open Tb (Tab TIn Sl okP csT lastN nth Fresh)
open Dk (St Only Grew)
set_option maxHeartbeats 32000000 in
theorem walk (sg sl : Int) (x : Nat) (rt : Int) (lim : Int) (w : World) (hx : x < 18446744073709551616) (hlim : (Lit.int .u8 lim).wf = true) :
    Calls Tryz.prog 8 #[.agg #[.int .i64 sg, .int .i64 sl, .float .f64 x, .int .i64 rt], .int .u8 lim] w fun e w' => e = .returned (.bool true) ∧ Below w.heap.size w w' := by
  have hl8 : 0 ≤ lim ∧ lim ≤ 255 := by
    simp [Lit.wf] at hlim
    exact ⟨hlim.1, hlim.2⟩
  clear hlim
  have N4 : Tb.Blk (w.alloc (.cells (csF sg sl x rt) 24)) w.heap.size 24 (csF sg sl x rt) := Tb.Blk.new w _ _
  have BBA := Lib.hid (Tb.below1 w (.cells (csF sg sl x rt) 24))
  go_enter Tryz.func8, Tryz.ntmps8
  go_upto_region 1 with fail
  change Code.wp _ _ _ _ (w.alloc (.cells (csF sg sl x rt) 24))
  obtain ⟨b, Eb⟩ : ∃ z, w.heap.size = z := ⟨_, rfl⟩
  have HWB : Hid (w.heap.size = b) := Lib.hid Eb
  rw [Eb] at N4 ⊢
  clear Eb
  generalize w.alloc (.cells (csF sg sl x rt) 24) = wA at *
  have HSM := Lib.hid (small_any sg sl rt x wA hx)
  obtain ⟨G, EG⟩ : ∃ z, smG sg sl x rt = z := ⟨_, rfl⟩
  obtain ⟨Z, EZ⟩ : ∃ z, smL sg sl x rt = z := ⟨_, rfl⟩
  have HSB : Hid (Ck.MayC G Z x rt → G ≤ 6 ∧ Z ≤ 5) := Lib.hid (fun h => by
    by_cases hm : Ck.MayC sg sl x rt
    · have := small_may hm
      rw [EG, EZ] at this
      exact this.2
    · exact absurd (by rw [EG, EZ]; exact h) (small_not hm))
  rw [EG, EZ] at HSM
  clear EG EZ
  go_wp2_with (with_reducible refine load_cf rfl (.tmp 2) rfl b rfl N4 ?_)
  refine HSM.out.mono ?_
  rintro e' w1 ⟨rfl, hb1⟩
  replace N4 := N4.later hb1
  replace BBA := Lib.hid (BBA.out.trans (hb1.mono BBA.out.size))
  clear HSM hb1
  go_upto_region 2 with (with_reducible refine store_cf rfl (.tmp 2) (.tmp 14) rfl b rfl rfl N4 ?_)
  replace N4 := N4.row (csF G Z x rt)
  replace BBA := Lib.hid (Tb.below_row BBA.out (show w.heap.size ≤ b by have := HWB.out; omega) (csF G Z x rt))
  generalize w1.setRow b (csF G Z x rt) = wB at *
  by_cases hm : Ck.MayC G Z x rt
  case neg =>
    have HC := Lib.hid (fun w => Ck.R4.may_no G Z rt x w hx hm)
    go_wp2_with (with_reducible refine load_cf rfl (.tmp 2) rfl b rfl N4 ?_)
    refine (HC.out _).mono ?_
    rintro e' w2 ⟨rfl, hb⟩
    have BB2 := Lib.hid (BBA.out.trans (hb.mono BBA.out.size))
    clear hb HC N4
    go_wp2_with fail
    refine (fixed_any _).mono ?_
    rintro e' w3 ⟨rfl, hb⟩
    have BB3 := Lib.hid (BB2.out.trans (hb.mono BB2.out.size))
    clear hb
    go_wp2_with fail
    go_ret
    exact ⟨rfl, BB3.out⟩
  have HB6 := HSB.out hm
  have HN0 := Lib.hid (new_yes (x := x) (rt := rt) hm HB6.1 HB6.2).2
  have HMD := Lib.hid (fun w (h : Below wB.heap.size wB w) => made_new (w0 := wB) h hx hm HB6.1 HB6.2)
  have HC := Lib.hid (fun w => Ck.R4.may_yes G Z rt x w hm)
  have HSC := Lib.hid (fun w => Ck.R4.sectors_any G Z rt x w hx)
  have HSE := Lib.hid (sc_may hm)
  clear hm HB6 HSB
  generalize Ck.scC G Z x rt = sc at *
  generalize nD G Z x rt = s0 at *
  generalize Tb.newT G Z 1 = t0 at *
  go_wp2_with (with_reducible refine load_cf rfl (.tmp 2) rfl b rfl N4 ?_)
  refine (HC.out _).mono ?_
  rintro e' w2 ⟨rfl, hb⟩
  have KEY2 : Below wB.heap.size wB w2.drew := hb.drew
  have f0 : w2.cell? ⟨b, 0, none⟩ = some (.int .i64 G) := (N4.later hb).cell 0
  have f1 : w2.cell? ⟨b, 1, none⟩ = some (.int .i64 Z) := (N4.later hb).cell 1
  have f2 : w2.cell? ⟨b, 2, none⟩ = some (.float .f64 x) := (N4.later hb).cell 2
  have f3 : w2.cell? ⟨b, 3, none⟩ = some (.int .i64 rt) := (N4.later hb).cell 3
  have KEY : Hid (∀ W', Below w2.drew.heap.size w2.drew W' → Below wB.heap.size wB W' ∧ W'.cell? ⟨b, 0, none⟩ = some (.int .i64 G) ∧ W'.cell? ⟨b, 1, none⟩ = some (.int .i64 Z) ∧ W'.cell? ⟨b, 2, none⟩ = some (.float .f64 x) ∧ W'.cell? ⟨b, 3, none⟩ = some (.int .i64 rt)) := Lib.hid (fun W' hb' => by
    have hB := KEY2.trans (hb'.mono KEY2.size)
    have M := N4.later hB
    exact ⟨hB, M.cell 0, M.cell 1, M.cell 2, M.cell 3⟩)
  clear hb HC
  have hbD : Below wB.heap.size wB w2.drew := KEY2
  go_upto_region 4 with fail
  go_cut [5, 6, 7] from 19 to 26 (fun s5 s6 s7 wx => ∃ g d, s5 = .pointer (some ⟨g, 0, none⟩) ∧ s6 = .pointer (some ⟨d, 0, none⟩) ∧ s7 = .int .i64 0 ∧ Dk.Sep wB wx [Dk.diskI d s0, PLog g d t0 1 1 1])
  case first =>
    go_region_with (first
      | (go_at_call 21; refine (HSC.out _).mono ?_; rintro e5 w5 ⟨rfl, hb5⟩; obtain ⟨e51, e52, e53, e54, e55⟩ := KEY.out w5 hb5)
      | (go_at_call 11; refine (HMD.out _ (by assumption)).mono ?_; rintro e6 w6 ⟨g, d, rfl, h6⟩))
    all_goals
      go_wp2_with fail
      go_meet
      exact ⟨_, _, rfl, rfl, rfl, h6⟩
  case rest =>
  obtain ⟨g, d, rfl, rfl, rfl, h3⟩ := hcut
  clear KEY KEY2 f0 f1 f2 f3 HMD HSC hbD
  obtain ⟨n, En⟩ : ∃ z, lim.tmod 40 = z := ⟨_, rfl⟩
  have hn : 0 ≤ n ∧ n < 40 := by rw [← En, Int.tmod_eq_emod_of_nonneg hl8.1]; omega
  obtain ⟨m, Em⟩ : ∃ z, G * Z = z := ⟨_, rfl⟩
  have hZ5 := HN0.out.z
  have hG6 := HN0.out.g
  have hm30 : 0 ≤ m ∧ m ≤ 30 := by
    rw [← Em]
    exact ⟨Int.mul_nonneg (by omega) (by omega), Int.mul_le_mul (show G ≤ 6 by omega) (show Z ≤ 5 by omega) (by omega) (by omega)⟩
  have HGZ := Lib.hid Em
  have HLM := Lib.hid (limit_s h3 (k := 0) rfl n (by omega) (by omega))
  have HRN := Lib.hid (run_limit (n := n) (run_new HN0.out) (by omega) (by omega))
  clear h3 HN0
  go_wp2_with fail
  refine HLM.out.mono ?_
  rintro e' w4 ⟨rfl, h40⟩
  have h4 : Hid (Dk.Sep wB w4 [Dk.diskI d (s0.limit n), PLog g d t0 1 1 1]) := Lib.hid h40
  clear h40 HLM
  go_wp2_with fail
  go_loopg [9, 8] 30 (fun gk s9 s8 wr => ∃ (i : Nat) (s1 : St) (t1 : Tab) (l1 n1 : Int), (i : Int) ≤ m ∧ (0 ≤ n1 ∧ n1 < 40) ∧ gk = 30 - i ∧ s9 = .int .i64 (i : Nat) ∧ s8 = .int .i64 n1 ∧ Hid (Run G Z i t1 s1 l1) ∧ Hid (s1.set = true ∧ s1.left = n1) ∧ Hid (Dk.Sep wB wr [Dk.diskI d s1, PLog g d t1 l1 1 1]))
  case atStart => exact ⟨0, _, _, _, n, by omega, hn, rfl, rfl, rfl, HRN, Lib.hid ⟨rfl, rfl⟩, h4⟩
  case round =>
    obtain ⟨i, s1, t1, l1, n1, hi, hn1, hgk, rfl, rfl, HR, HSET, HI⟩ := hrel
    have HG := Lib.hid hgk
    clear hgk h4
    have c0 : wr.cell? ⟨b, 0, none⟩ = some (.int .i64 G) := (N4.later HI.out.below).cell 0
    have c1 : wr.cell? ⟨b, 1, none⟩ = some (.int .i64 Z) := (N4.later HI.out.below).cell 1
    have HLS : Hid (l1 ≠ 0) := Lib.hid (by have := HR.out.p.ls1; omega)
    have HB : Hid ((1 ≤ l1 ∧ l1 + 2 < 18446744073709551616) ∧ s1.pend.length + 2 < 1048576) := Lib.hid ⟨by have := HR.out.p.ls1; have := HR.out.p.ls2; omega, by have := HR.out.p.pend; omega⟩
    by_cases hlt : (i : Int) < m
    · have HLT : Hid ((i : Int) < G * Z) := Lib.hid (by rw [HGZ.out]; exact hlt)
      by_cases h0 : 0 < (i : Int)
      · by_cases hz : (i : Int).tmod Z = 0
        · have ND : (if 0 < (i : Int) ∧ (i : Int).tmod Z = 0 then (2 : Int) else 1) = 2 := if_pos ⟨h0, hz⟩
          have q5 : ((i : Int) % Z == 0) = true := by rw [← Int.tmod_eq_emod_of_nonneg (by omega), hz]; rfl
          have q4 : decide (0 < (i : Int)) = true := decide_eq_true h0
          go_wp2_with fail
          by_cases hd : n1 < 2
          · have E9 := Lib.hid (HR.out.dead (K := 2) (V := 0) (D := 0) (I := ⟨#[97]⟩) (X := ⟨#[]⟩) (by have := HLT.out; omega) (by decide) (okR_stamp HLS.out (by decide : Rc.okR ⟨1, 1, 2, 0, 0, [97], []⟩ = true)) HSET.out.1 HSET.out.2 (by rw [ND]; exact hd))
            have HA := Lib.hid (prg.app HI.out (k := 0) (j := 1) rfl rfl (by decide) 0 0 2 0 0 ⟨#[97]⟩ ⟨#[]⟩ HB.out.1 ⟨by decide, by decide⟩ ⟨by decide, by decide⟩ ⟨by decide, by decide⟩ (by decide) (by decide) HR.out.p.ok HR.out.p.fit HB.out.2)
            rw [E9.out] at HA
            refine HA.out.mono ?_
            rintro e' w5 ⟨rfl, it, h5, _⟩
            have BB5 := Lib.hid (BBA.out.trans (h5.below.mono BBA.out.size))
            clear HA HI h5 E9
            have q9 : decide (n1 < 2) = true := decide_eq_true hd
            generalize (appS t1 s1 l1 1 2 0 0 ⟨#[97]⟩ ⟨#[]⟩).2.2.2.1 = p1
            generalize (appS t1 s1 l1 1 2 0 0 ⟨#[97]⟩ ⟨#[]⟩).2.2.2.2.1 = p2
            go_wp2_with fail
            have BB6 := Lib.hid (BB5.out.trans ((Tb.below1 w5 (.cells #[.int .i64 p1, .int .i64 p2] 67)).mono BB5.out.size))
            refine (fixed_any _).mono ?_
            rintro e' w6 ⟨rfl, hb⟩
            have BB7 := Lib.hid (BB6.out.trans (hb.mono BB6.out.size))
            clear hb
            go_wp2_with fail
            go_ret
            exact ⟨rfl, BB7.out⟩
          · obtain ⟨s2, t2, l2, p1, p2, E, R2, S1, S2⟩ := HR.out.next (K := 2) (V := 0) (D := 0) (I := ⟨#[97]⟩) (X := ⟨#[]⟩) (by have := HLT.out; omega) (by decide) (okR_stamp HLS.out (by decide : Rc.okR ⟨1, 1, 2, 0, 0, [97], []⟩ = true)) (fun _ => by rw [HSET.out.2, ND]; exact hd)
            have HA := Lib.hid (prg.app HI.out (k := 0) (j := 1) rfl rfl (by decide) 0 0 2 0 0 ⟨#[97]⟩ ⟨#[]⟩ HB.out.1 ⟨by decide, by decide⟩ ⟨by decide, by decide⟩ ⟨by decide, by decide⟩ (by decide) (by decide) HR.out.p.ok HR.out.p.fit HB.out.2)
            rw [E] at HA
            have HS2 : Hid (s2.set = true ∧ s2.left = n1 - 2) := Lib.hid ⟨S1.trans HSET.out.1, by have := S2 HSET.out.1; rw [HSET.out.2, ND] at this; exact this⟩
            have HR2 := Lib.hid R2
            clear E R2 S1 S2
            refine HA.out.mono ?_
            rintro e' w5 ⟨rfl, it, h5, hit⟩
            rw [hit (show (0 : Int) ≠ 9 by decide)] at h5
            have q9 : decide (n1 < 2) = false := decide_eq_false hd
            have HI2 : Hid (Dk.Sep wB (w5.alloc (.cells #[.int .i64 p1, .int .i64 p2] 67)) [Dk.diskI d s2, PLog g d t2 l2 1 1]) := Lib.hid (h5.alloc _)
            clear HA HI h5 hit HR HSET HB HLS
            go_wp2_with fail
            go_roundg (30 - (i + 1))
            case measure => have := HG.out; omega
            case rel => exact ⟨i + 1, s2, t2, l2, n1 - 2, by omega, by omega, rfl, by go_num, by go_num, HR2, HS2, HI2⟩
        · have ND : (if 0 < (i : Int) ∧ (i : Int).tmod Z = 0 then (2 : Int) else 1) = 1 := if_neg (fun h => hz h.2)
          have q5 : ((i : Int) % Z == 0) = false := by rw [← Int.tmod_eq_emod_of_nonneg (by omega)]; simp [hz]
          have q4 : decide (0 < (i : Int)) = true := decide_eq_true h0
          go_wp2_with fail
          by_cases hd : n1 < 1
          · have E9 := Lib.hid (HR.out.dead (K := 2) (V := 0) (D := 0) (I := ⟨#[97]⟩) (X := ⟨#[]⟩) (by have := HLT.out; omega) (by decide) (okR_stamp HLS.out (by decide : Rc.okR ⟨1, 1, 2, 0, 0, [97], []⟩ = true)) HSET.out.1 HSET.out.2 (by rw [ND]; exact hd))
            have HA := Lib.hid (prg.app HI.out (k := 0) (j := 1) rfl rfl (by decide) 0 0 2 0 0 ⟨#[97]⟩ ⟨#[]⟩ HB.out.1 ⟨by decide, by decide⟩ ⟨by decide, by decide⟩ ⟨by decide, by decide⟩ (by decide) (by decide) HR.out.p.ok HR.out.p.fit HB.out.2)
            rw [E9.out] at HA
            refine HA.out.mono ?_
            rintro e' w5 ⟨rfl, it, h5, _⟩
            have BB5 := Lib.hid (BBA.out.trans (h5.below.mono BBA.out.size))
            clear HA HI h5 E9
            have q9 : decide (n1 < 1) = true := decide_eq_true hd
            generalize (appS t1 s1 l1 1 2 0 0 ⟨#[97]⟩ ⟨#[]⟩).2.2.2.1 = p1
            generalize (appS t1 s1 l1 1 2 0 0 ⟨#[97]⟩ ⟨#[]⟩).2.2.2.2.1 = p2
            go_wp2_with fail
            have BB6 := Lib.hid (BB5.out.trans ((Tb.below1 w5 (.cells #[.int .i64 p1, .int .i64 p2] 67)).mono BB5.out.size))
            refine (fixed_any _).mono ?_
            rintro e' w6 ⟨rfl, hb⟩
            have BB7 := Lib.hid (BB6.out.trans (hb.mono BB6.out.size))
            clear hb
            go_wp2_with fail
            go_ret
            exact ⟨rfl, BB7.out⟩
          · obtain ⟨s2, t2, l2, p1, p2, E, R2, S1, S2⟩ := HR.out.next (K := 2) (V := 0) (D := 0) (I := ⟨#[97]⟩) (X := ⟨#[]⟩) (by have := HLT.out; omega) (by decide) (okR_stamp HLS.out (by decide : Rc.okR ⟨1, 1, 2, 0, 0, [97], []⟩ = true)) (fun _ => by rw [HSET.out.2, ND]; exact hd)
            have HA := Lib.hid (prg.app HI.out (k := 0) (j := 1) rfl rfl (by decide) 0 0 2 0 0 ⟨#[97]⟩ ⟨#[]⟩ HB.out.1 ⟨by decide, by decide⟩ ⟨by decide, by decide⟩ ⟨by decide, by decide⟩ (by decide) (by decide) HR.out.p.ok HR.out.p.fit HB.out.2)
            rw [E] at HA
            have HS2 : Hid (s2.set = true ∧ s2.left = n1 - 1) := Lib.hid ⟨S1.trans HSET.out.1, by have := S2 HSET.out.1; rw [HSET.out.2, ND] at this; exact this⟩
            have HR2 := Lib.hid R2
            clear E R2 S1 S2
            refine HA.out.mono ?_
            rintro e' w5 ⟨rfl, it, h5, hit⟩
            rw [hit (show (0 : Int) ≠ 9 by decide)] at h5
            have q9 : decide (n1 < 1) = false := decide_eq_false hd
            have HI2 : Hid (Dk.Sep wB (w5.alloc (.cells #[.int .i64 p1, .int .i64 p2] 67)) [Dk.diskI d s2, PLog g d t2 l2 1 1]) := Lib.hid (h5.alloc _)
            clear HA HI h5 hit HR HSET HB HLS
            go_wp2_with fail
            go_roundg (30 - (i + 1))
            case measure => have := HG.out; omega
            case rel => exact ⟨i + 1, s2, t2, l2, n1 - 1, by omega, by omega, rfl, by go_num, by go_num, HR2, HS2, HI2⟩
      · have ND : (if 0 < (i : Int) ∧ (i : Int).tmod Z = 0 then (2 : Int) else 1) = 1 := if_neg (fun h => h0 h.1)
        have q4 : decide (0 < (i : Int)) = false := decide_eq_false h0
        go_wp2_with fail
        by_cases hd : n1 < 1
        · have E9 := Lib.hid (HR.out.dead (K := 2) (V := 0) (D := 0) (I := ⟨#[97]⟩) (X := ⟨#[]⟩) (by have := HLT.out; omega) (by decide) (okR_stamp HLS.out (by decide : Rc.okR ⟨1, 1, 2, 0, 0, [97], []⟩ = true)) HSET.out.1 HSET.out.2 (by rw [ND]; exact hd))
          have HA := Lib.hid (prg.app HI.out (k := 0) (j := 1) rfl rfl (by decide) 0 0 2 0 0 ⟨#[97]⟩ ⟨#[]⟩ HB.out.1 ⟨by decide, by decide⟩ ⟨by decide, by decide⟩ ⟨by decide, by decide⟩ (by decide) (by decide) HR.out.p.ok HR.out.p.fit HB.out.2)
          rw [E9.out] at HA
          refine HA.out.mono ?_
          rintro e' w5 ⟨rfl, it, h5, _⟩
          have BB5 := Lib.hid (BBA.out.trans (h5.below.mono BBA.out.size))
          clear HA HI h5 E9
          have q9 : decide (n1 < 1) = true := decide_eq_true hd
          generalize (appS t1 s1 l1 1 2 0 0 ⟨#[97]⟩ ⟨#[]⟩).2.2.2.1 = p1
          generalize (appS t1 s1 l1 1 2 0 0 ⟨#[97]⟩ ⟨#[]⟩).2.2.2.2.1 = p2
          go_wp2_with fail
          have BB6 := Lib.hid (BB5.out.trans ((Tb.below1 w5 (.cells #[.int .i64 p1, .int .i64 p2] 67)).mono BB5.out.size))
          refine (fixed_any _).mono ?_
          rintro e' w6 ⟨rfl, hb⟩
          have BB7 := Lib.hid (BB6.out.trans (hb.mono BB6.out.size))
          clear hb
          go_wp2_with fail
          go_ret
          exact ⟨rfl, BB7.out⟩
        · obtain ⟨s2, t2, l2, p1, p2, E, R2, S1, S2⟩ := HR.out.next (K := 2) (V := 0) (D := 0) (I := ⟨#[97]⟩) (X := ⟨#[]⟩) (by have := HLT.out; omega) (by decide) (okR_stamp HLS.out (by decide : Rc.okR ⟨1, 1, 2, 0, 0, [97], []⟩ = true)) (fun _ => by rw [HSET.out.2, ND]; exact hd)
          have HA := Lib.hid (prg.app HI.out (k := 0) (j := 1) rfl rfl (by decide) 0 0 2 0 0 ⟨#[97]⟩ ⟨#[]⟩ HB.out.1 ⟨by decide, by decide⟩ ⟨by decide, by decide⟩ ⟨by decide, by decide⟩ (by decide) (by decide) HR.out.p.ok HR.out.p.fit HB.out.2)
          rw [E] at HA
          have HS2 : Hid (s2.set = true ∧ s2.left = n1 - 1) := Lib.hid ⟨S1.trans HSET.out.1, by have := S2 HSET.out.1; rw [HSET.out.2, ND] at this; exact this⟩
          have HR2 := Lib.hid R2
          clear E R2 S1 S2
          refine HA.out.mono ?_
          rintro e' w5 ⟨rfl, it, h5, hit⟩
          rw [hit (show (0 : Int) ≠ 9 by decide)] at h5
          have q9 : decide (n1 < 1) = false := decide_eq_false hd
          have HI2 : Hid (Dk.Sep wB (w5.alloc (.cells #[.int .i64 p1, .int .i64 p2] 67)) [Dk.diskI d s2, PLog g d t2 l2 1 1]) := Lib.hid (h5.alloc _)
          clear HA HI h5 hit HR HSET HB HLS
          go_wp2_with fail
          go_roundg (30 - (i + 1))
          case measure => have := HG.out; omega
          case rel => exact ⟨i + 1, s2, t2, l2, n1 - 1, by omega, by omega, rfl, by go_num, by go_num, HR2, HS2, HI2⟩
    · have hm : (i : Int) = m := by omega
      have q6 : decide ((i : Int) < m) = false := decide_eq_false hlt
      have HEP : Hid ((s1.pend.length : Int) = m + G - 1) := Lib.hid (by rw [← HGZ.out]; exact (HR.out.last (by rw [HGZ.out]; exact hm)).2.2.2.1)
      go_upto_region 21 with fail
      have I : Dk.Sep wB { wr with drawn := wr.drawn + 1 } [Dk.diskI d s1, PLog g d t1 l1 1 1] := HI.out.later (Below.refl _ _).drew
      have hne : Nonempty (In (fun W => Dk.Sep wB W [Dk.diskI d s1, PLog g d t1 l1 1 1])) := ⟨⟨_, I⟩⟩
      have g0 : ∀ jj : In (fun W => Dk.Sep wB W [Dk.diskI d s1, PLog g d t1 l1 1 1]), jj.W.cell? ⟨b, 0, none⟩ = some (.int .i64 G) := fun jj => (N4.later jj.h.below).cell 0
      have g1 : ∀ jj : In (fun W => Dk.Sep wB W [Dk.diskI d s1, PLog g d t1 l1 1 1]), jj.W.cell? ⟨b, 1, none⟩ = some (.int .i64 Z) := fun jj => (N4.later jj.h.below).cell 1
      refine region_class (fun W => Dk.Sep wB W [Dk.diskI d s1, PLog g d t1 l1 1 1]) (by kernel_rfl) (by kernel_rfl) I ?_
      repeat (go_big_quiet_step (first
        | (go_at_call 18; with_reducible exact class_call _ (fun hi => Dk.pending_s hi 0 rfl (m + G - 1) HEP.out))
        | (go_at_call 13; with_reducible exact class_call _ (fun hi => (fixed_any _).mono fun e w' ⟨he, hb⟩ => ⟨he, hi.later hb⟩))))
      refine wpQuiet_nil ?_
      rintro _ ⟨jj, rfl⟩
      have BBF := Lib.hid (BBA.out.trans (jj.h.below.mono BBA.out.size))
      clear g0 g1 hne I
      go_wp2_with fail
      go_ret
      exact ⟨rfl, BBF.out⟩
set_option maxRecDepth 100000 in
theorem lifted (os : Os) (started : os.Started) (H : Type) (enc : TypeId × Value → H) :
    ReturnsInHanded {} Tryz.checked os 8 .any (Rows.logDeadSpec.pre6 enc Tryz.prog Tryz.f8 Rows.logDeadRow.domain false) (Rows.logDeadSpec.post enc Tryz.prog Tryz.f8 false true false false) := by
  refine returnsInHanded_of_change (C := Tryz.checked) own started (by kernel_rfl) Tryz.func8
    (ChangeSpec.witness6 (enc := enc) (C := Tryz.checked) false ⟨#[], #[.agg #[.int .i64 0, .int .i64 0, .float .f64 0, .int .i64 0], .int .u8 0], []⟩ 8 (by kernel_rfl) (by kernel_rfl) (by kernel_rfl) (by kernel_rfl)) ?_
  intro W base args ds gs before hval0 hW hcnd _
  have hval : ∀ (j : Nat) t v, Tryz.f8.params[j]? = some t → args[j]? = some v → Value.okWide Tryz.prog W .any base t v := hval0
  have hW' := hW
  obtain ⟨p, q, hA0, hV, rfl, hfz, hnd⟩ := hW
  have hA : DataW.TrodAll enc Tryz.prog W 0 (fun _ => true) true Tryz.f8.params.toList args.toList ds p := hA0
  rw [Tryz.params8] at hA hval
  obtain ⟨v0, vs0, d0, ds0, p0, q0, hargs, rfl, rfl, h0, r0⟩ := trodAll_cons hA
  obtain ⟨v1, vs1, d1, ds1, p1, q1, rfl, rfl, rfl, h1, r1⟩ := trodAll_cons r0
  obtain ⟨rfl, rfl, rfl⟩ := trodAll_nil r1
  obtain rfl : args = #[v0, v1] := by cases args; simp_all
  obtain ⟨rfl, rfl⟩ := trodVars_none hV
  obtain ⟨sg0, sl0, x0, rt0, rfl, hx0⟩ := Lg.open_conf (hval 0 24 v0 rfl rfl) h0
  obtain ⟨a1, rfl, rfl, rfl, w1⟩ := open_int Tryz.underlying5 (hval 1 5 v1 rfl rfl) h1
  clear hA0 hval0
  try simp only [List.append_nil] at hW'
  try simp only [List.nil_append] at hW'
  have hlt := fun x hx => hW'.lt x hx
  refine (walk sg0 sl0 x0 rt0 a1 W hx0 w1).mono fun e W' ⟨he, hg⟩ => ?_
  subst he
  refine ⟨_, rfl, post_mem hW' (fun _ _ _ => (trodAll_cons_mk (shut_bool Tryz.underlying4 _) trodAll_mk0)) (fun sp hsp => ?_) (fun _ => rfl) hg (ok_one (by kernel_rfl) rfl (okWide_bool_mk Tryz.underlying4 _))⟩
  have hall := (trodAll_cons_mk (arg_same (sp := sp) laid (by kernel_rfl) (of_decide_eq_true (by kernel_rfl)) h0 hg (by intro x hx; simp_all) hlt hsp) (trodAll_cons_mk (arg_same (sp := sp) laid (by kernel_rfl) (of_decide_eq_true (by kernel_rfl)) h1 hg (by intro x hx; simp_all) hlt hsp) trodAll_mk0))
  try simp only [List.append_nil] at hall
  try simp only [List.nil_append] at hall
  exact hall
theorem over : Rows.logDeadRow.holds Tryz.pinned (OpenSpec.ofChange Rows.logDeadSpec) :=
  OpenClaim.holds_of_wide 8 Tryz.f8 rfl rfl rfl rfl rfl rfl rfl ⟨rfl, rfl, rfl, rfl, rfl⟩ rfl rfl rfl rfl rfl (by kernel_rfl) Tryz.func8 (by kernel_rfl)
    (of_decide_eq_true (by kernel_rfl)) (by unfold Func.isWrapper; first | (rw [if_pos (by decide +kernel)]; kernel_rfl) | (rw [if_neg (by decide +kernel)]; exact ⟨rfl, rfl⟩))
    (fun os started H enc _ => lifted os started H enc)
theorem proved : Rows.LogDeadSaid := over
#print axioms proved
end Go.Proofs.YtdpmjlbkojhooaaGreat.logDead
