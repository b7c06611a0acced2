/- For every conf and every segment's number the statement LogFull about seglog returns true, and changes nothing. Conditions: none. -/
import Derived.Test.YtdpmjlbkojhooaaGreatPLiC
import Derived.Deep.DeepCutAuto
import Derived.Deep.LoopGhost
import Derived.Deep.RegionWith
import Derived.StillTailTactics
import Derived.WalkSmall
import Derived.IntWalk
import Derived.ProofKit
import Derived.OpenShut
import Derived.ShutString
import Derived.SizedLaws
namespace Go.Proofs.YtdpmjlbkojhooaaGreat.logFull
open Go.ChangeShapes Go.WideShapes Go.ChangeAt Go.RowKit Go.Lib Go.MapKept
open Go.ChangeMaps (open_string shut_string)
set_option linter.unusedVariables false
theorem own : ownKnob Tryz.prog.godebug = none := by kernel_rfl
theorem laid : laidOutB Tryz.prog = true := by kernel_rfl
set_option maxRecDepth 100000
open Lg
open Tb (Tab TIn Sl okP csT lastN nth Fresh)
open Dk (St Only Grew)
set_option maxHeartbeats 32000000 in
theorem walk (sg sl : Int) (x : Nat) (rt : Int) (seg : Int) (w : World) (hx : x < 18446744073709551616) (_ : (Lit.int .i64 seg).wf = true) :
    Calls Tryz.prog 5 #[.agg #[.int .i64 sg, .int .i64 sl, .float .f64 x, .int .i64 rt], .int .i64 seg] w fun e w' => e = .returned (.bool true) ∧ Below w.heap.size w w' := by
  have N4 : Tb.Blk (w.alloc (.cells (csF sg sl x rt) 24)) w.heap.size 24 (csF sg sl x rt) := Tb.Blk.new w _ _
  have BBA := Lib.hid (Tb.below1 w (.cells (csF sg sl x rt) 24))
  go_enter Tryz.func5, Tryz.ntmps5
  go_upto_region 1 with fail
  change Code.wp _ _ _ _ (w.alloc (.cells (csF sg sl x rt) 24))
  obtain ⟨b, Eb⟩ : ∃ z, w.heap.size = z := ⟨_, rfl⟩
  have HWB : Hid (w.heap.size = b) := Lib.hid Eb
  rw [Eb] at N4 ⊢
  clear Eb
  generalize w.alloc (.cells (csF sg sl x rt) 24) = wA at *
  have HSM := Lib.hid (small_any sg sl rt x wA hx)
  obtain ⟨G, EG⟩ : ∃ z, smG sg sl x rt = z := ⟨_, rfl⟩
  obtain ⟨Z, EZ⟩ : ∃ z, smL sg sl x rt = z := ⟨_, rfl⟩
  have HSB : Hid (Ck.MayC G Z x rt → G ≤ 6 ∧ Z ≤ 5) := Lib.hid (fun h => by
    by_cases hm : Ck.MayC sg sl x rt
    · have := small_may hm
      rw [EG, EZ] at this
      exact this.2
    · exact absurd (by rw [EG, EZ]; exact h) (small_not hm))
  rw [EG, EZ] at HSM
  clear EG EZ
  go_wp2_with (with_reducible refine load_cf rfl (.tmp 2) rfl b rfl N4 ?_)
  refine HSM.out.mono ?_
  rintro e' w1 ⟨rfl, hb1⟩
  replace N4 := N4.later hb1
  replace BBA := Lib.hid (BBA.out.trans (hb1.mono BBA.out.size))
  clear HSM hb1
  go_upto_region 2 with (with_reducible refine store_cf rfl (.tmp 2) (.tmp 21) rfl b rfl rfl N4 ?_)
  replace N4 := N4.row (csF G Z x rt)
  replace BBA := Lib.hid (Tb.below_row BBA.out (show w.heap.size ≤ b by have := HWB.out; omega) (csF G Z x rt))
  generalize w1.setRow b (csF G Z x rt) = wB at *
  by_cases hm : Ck.MayC G Z x rt
  case neg =>
    have HC := Lib.hid (fun w => Ck.R4.may_no G Z rt x w hx hm)
    go_wp2_with (with_reducible refine load_cf rfl (.tmp 2) rfl b rfl N4 ?_)
    refine (HC.out _).mono ?_
    rintro e' w2 ⟨rfl, hb⟩
    have BB2 := Lib.hid (BBA.out.trans (hb.mono BBA.out.size))
    clear hb HC N4
    go_wp2_with fail
    refine (fixed_any _).mono ?_
    rintro e' w3 ⟨rfl, hb⟩
    have BB3 := Lib.hid (BB2.out.trans (hb.mono BB2.out.size))
    clear hb
    go_wp2_with fail
    go_ret
    exact ⟨rfl, BB3.out⟩
  have HB6 := HSB.out hm
  have HN0 := Lib.hid (new_yes (x := x) (rt := rt) hm HB6.1 HB6.2).2
  have HMD := Lib.hid (fun w (h : Below wB.heap.size wB w) => made_new (w0 := wB) h hx hm HB6.1 HB6.2)
  have HC := Lib.hid (fun w => Ck.R4.may_yes G Z rt x w hm)
  have HSC := Lib.hid (fun w => Ck.R4.sectors_any G Z rt x w hx)
  have HSE := Lib.hid (sc_may hm)
  clear hm HB6 HSB
  generalize Ck.scC G Z x rt = sc at *
  generalize nD G Z x rt = s0 at *
  generalize Tb.newT G Z 1 = t0 at *
  go_wp2_with (with_reducible refine load_cf rfl (.tmp 2) rfl b rfl N4 ?_)
  refine (HC.out _).mono ?_
  rintro e' w2 ⟨rfl, hb⟩
  have KEY2 : Below wB.heap.size wB w2.drew := hb.drew
  have f0 : w2.cell? ⟨b, 0, none⟩ = some (.int .i64 G) := (N4.later hb).cell 0
  have f1 : w2.cell? ⟨b, 1, none⟩ = some (.int .i64 Z) := (N4.later hb).cell 1
  have f2 : w2.cell? ⟨b, 2, none⟩ = some (.float .f64 x) := (N4.later hb).cell 2
  have f3 : w2.cell? ⟨b, 3, none⟩ = some (.int .i64 rt) := (N4.later hb).cell 3
  have KEY : Hid (∀ W', Below w2.drew.heap.size w2.drew W' → Below wB.heap.size wB W' ∧ W'.cell? ⟨b, 0, none⟩ = some (.int .i64 G) ∧ W'.cell? ⟨b, 1, none⟩ = some (.int .i64 Z) ∧ W'.cell? ⟨b, 2, none⟩ = some (.float .f64 x) ∧ W'.cell? ⟨b, 3, none⟩ = some (.int .i64 rt)) := Lib.hid (fun W' hb' => by
    have hB := KEY2.trans (hb'.mono KEY2.size)
    have M := N4.later hB
    exact ⟨hB, M.cell 0, M.cell 1, M.cell 2, M.cell 3⟩)
  clear hb HC
  have hbD : Below wB.heap.size wB w2.drew := KEY2
  go_upto_region 4 with fail
  go_cut [5, 6, 7] from 26 to 33 (fun s5 s6 s7 wx => ∃ g d, s5 = .pointer (some ⟨g, 0, none⟩) ∧ s6 = .pointer (some ⟨d, 0, none⟩) ∧ s7 = .int .i64 0 ∧ Dk.Sep wB wx [Dk.diskI d s0, PLog g d t0 1 1 1])
  case first =>
    go_region_with (first
      | (go_at_call 21; refine (HSC.out _).mono ?_; rintro e5 w5 ⟨rfl, hb5⟩; obtain ⟨e51, e52, e53, e54, e55⟩ := KEY.out w5 hb5)
      | (go_at_call 11; refine (HMD.out _ (by assumption)).mono ?_; rintro e6 w6 ⟨g, d, rfl, h6⟩))
    all_goals
      go_wp2_with fail
      go_meet
      exact ⟨_, _, rfl, rfl, rfl, h6⟩
  case rest =>
  obtain ⟨g, d, rfl, rfl, rfl, h3⟩ := hcut
  clear KEY KEY2 f0 f1 f2 f3 HMD HSC hbD
  obtain ⟨m, Em⟩ : ∃ z, G * Z = z := ⟨_, rfl⟩
  have hZ5 := HN0.out.z
  have hG6 := HN0.out.g
  have hm30 : 0 ≤ m ∧ m ≤ 30 := by
    rw [← Em]
    exact ⟨Int.mul_nonneg (by omega) (by omega), Int.mul_le_mul (show G ≤ 6 by omega) (show Z ≤ 5 by omega) (by omega) (by omega)⟩
  have HGZ := Lib.hid Em
  have HRN := Lib.hid (run_new HN0.out)
  have HSN := Lib.hid HN0.out.set
  have c0 : wc.cell? ⟨b, 0, none⟩ = some (.int .i64 G) := (N4.later h3.below).cell 0
  have c1 : wc.cell? ⟨b, 1, none⟩ = some (.int .i64 Z) := (N4.later h3.below).cell 1
  have h4 := Lib.hid h3
  clear h3 HN0
  go_wp2_with fail
  clear c0 c1
  go_loopg [9] 30 (fun gk s9 wr => ∃ (i : Nat) (s1 : St) (t1 : Tab) (l1 : Int), (i : Int) ≤ m ∧ gk = 30 - i ∧ s9 = .int .i64 (i : Nat) ∧ Hid (Run G Z i t1 s1 l1) ∧ Hid (s1.set = false) ∧ Hid (Dk.Sep wB wr [Dk.diskI d s1, PLog g d t1 l1 1 1]))
  case atStart => exact ⟨0, _, _, _, by omega, rfl, rfl, HRN, HSN, h4⟩
  case round =>
    obtain ⟨i, s1, t1, l1, hi, hgk, rfl, HR, HSET, HI⟩ := hrel
    have HG := Lib.hid hgk
    clear hgk h4 HSN
    have HLS : Hid (l1 ≠ 0) := Lib.hid (by have := HR.out.p.ls1; omega)
    have HC1 : Hid (2 * i ≤ 1000) := Lib.hid (by omega)
    by_cases hlt : (i : Int) < m
    · have HLT : Hid ((i : Int) < G * Z) := Lib.hid (by rw [HGZ.out]; exact hlt)
      obtain ⟨s2, t2, l2, p1, p2, E, R2, S1, _⟩ := HR.out.next (K := 1) (V := (i : Int)) (D := 9) (I := bC 97) (X := bC 118) HLT.out (by decide) (live_ok HLS.out (by decide)) (fun h => by rw [HSET.out] at h; cases h)
      have HE := Lib.hid E
      have HR2 := Lib.hid R2
      have HS2 : Hid (s2.set = false) := Lib.hid (S1.trans HSET.out)
      clear E R2 S1
      go_wp2_with fail
      refine (live_is ⟨#[97]⟩ (i : Int) wr).mono ?_
      rintro e' w5 ⟨rfl, hb⟩
      have HA := Lib.hid (app_live (HI.out.later hb) HR.out.p HC1.out HE.out (show (0 : Int) ≠ 9 by decide) (by omega))
      clear hb HI
      go_wp2_with fail
      refine HA.out.mono ?_
      rintro e' w6 ⟨rfl, h6⟩
      have HI2 : Hid (Dk.Sep wB (w6.alloc (.cells #[.int .i64 p1, .int .i64 p2] 67)) [Dk.diskI d s2, PLog g d t2 l2 1 1]) := Lib.hid (h6.alloc _)
      clear HA h6 HR HSET HLS HE
      go_wp2_with fail
      go_roundg (30 - (i + 1))
      case measure => have := HG.out; omega
      case rel => exact ⟨i + 1, s2, t2, l2, by omega, rfl, by go_num, HR2, HS2, HI2⟩
    · have hm : (i : Int) = m := by omega
      have HIM : Hid ((i : Int) = G * Z) := Lib.hid (by rw [HGZ.out]; exact hm)
      have HL := Lib.hid (HR.out.last HIM.out)
      have HE : Hid (appS t1 s1 l1 1 1 0 9 (bC 97) (bC 118) = (s1, t1, l1, 0, 0, 10)) := Lib.hid (app_full (by decide) (live_ok HLS.out (by decide)) HL.out.1)
      go_wp2_with fail
      refine (live_is ⟨#[97]⟩ 0 wr).mono ?_
      rintro e' w5 ⟨rfl, hb⟩
      have HA := Lib.hid (app_live (HI.out.later hb) HR.out.p HC1.out HE.out (show (10 : Int) ≠ 9 by decide) ⟨by decide, by decide⟩)
      clear hb HI HE
      go_wp2_with fail
      refine HA.out.mono ?_
      rintro e' w6 ⟨rfl, h6⟩
      have h7 : Dk.Sep wB (w6.alloc (.cells #[.int .i64 0, .int .i64 0] 67)) [Dk.diskI d s1, PLog g d t1 l1 1 1] := h6.alloc _
      clear HA h6
      go_upto_region 15 with fail
      generalize w6.alloc (.cells #[.int .i64 0, .int .i64 0] 67) = w7 at *
      have I : Dk.Sep wB { w7 with drawn := w7.drawn + 1 } [Dk.diskI d s1, PLog g d t1 l1 1 1] := h7.later (Below.refl _ _).drew
      have hne : Nonempty (In (fun W => Dk.Sep wB W [Dk.diskI d s1, PLog g d t1 l1 1 1])) := ⟨⟨_, I⟩⟩
      have g0 : ∀ jj : In (fun W => Dk.Sep wB W [Dk.diskI d s1, PLog g d t1 l1 1 1]), jj.W.cell? ⟨b, 0, none⟩ = some (.int .i64 G) := fun jj => (N4.later jj.h.below).cell 0
      have HSL : Hid (sealS t1 s1 l1 (footB t1 l1 1) = (s1, t1, l1, 10)) := Lib.hid (by
        unfold sealS
        simp only [HL.out.2.1])
      have HL1 : Hid (l1 = m + G) := Lib.hid (HL.out.2.2.1.trans (by rw [HGZ.out]))
      have HLN : Hid (∀ W, Dk.Sep wB W [Dk.diskI d s1, PLog g d t1 l1 1 1] → Calls Tryz.prog 32 #[.pointer (some ⟨g, 0, none⟩)] W fun e w' => e = .returned (.int .u64 (m + G)) ∧ Dk.Sep wB w' [Dk.diskI d s1, PLog g d t1 l1 1 1]) := Lib.hid (fun W h => by rw [← HL1.out]; exact lsn_fix h)
      refine region_class (fun W => Dk.Sep wB W [Dk.diskI d s1, PLog g d t1 l1 1 1]) (by kernel_rfl) (by kernel_rfl) I ?_
      repeat (go_big_quiet_step (first
        | (go_at_call 31; with_reducible exact class_call _ (fun hi => seal_fix hi HR.out.p HC1.out HSL.out (show (10 : Int) ≠ 9 by decide)))
        | (go_at_call 32; with_reducible exact class_call _ (fun hi => HLN.out _ hi))))
      refine wpQuiet_nil ?_
      rintro _ ⟨jj, rfl⟩
      have h8 := jj.h
      clear g0 hne I h7 HLN HSL
      generalize jj.W = w8 at *
      clear jj
      obtain ⟨q, Eq⟩ : ∃ z, bits .and .i64 seg 255 = z := ⟨_, rfl⟩
      have hq : 0 ≤ q ∧ q < 256 := by rw [← Eq, and255]; omega
      obtain ⟨k, Ek⟩ : ∃ z, q.tmod (G - 1) = z := ⟨_, rfl⟩
      have hk : 0 ≤ k ∧ k < G - 1 := by
        rw [← Ek, Int.tmod_eq_emod_of_nonneg hq.1]
        exact ⟨Int.emod_nonneg _ (by omega), Int.emod_lt_of_pos _ (by omega)⟩
      have Ek2 : q % (G - 1) = k := by rw [← Int.tmod_eq_emod_of_nonneg hq.1]; exact Ek
      obtain ⟨u, s2, hu, ED, hAg⟩ := drop_again HR.out HIM.out HSET.out hk
      have HAG := Lib.hid hAg
      have HD := Lib.hid (drop_fix h8 k 5 HR.out.p HC1.out (fun u hu => dropB_eq hu) ED (show (0 : Int) ≠ 9 by decide) ⟨by decide, by decide⟩)
      have c0 : w8.cell? ⟨b, 0, none⟩ = some (.int .i64 G) := (N4.later h8.below).cell 0
      have qG : ((G - 1) == 0) = false := by simp; omega
      clear h8 hu ED hAg HR HSET HL HLS HIM HL1
      go_wp2_with fail
      refine HD.out.mono ?_
      rintro e' w9 ⟨rfl, h9⟩
      have H9 := Lib.hid h9
      clear HD h9 c0
      go_wp2_with fail
      go_loopg [15] 5 (fun gk s15 wr => ∃ (i : Nat) (s1 : St) (t1 : Tab) (l1 : Int), (i : Int) ≤ Z ∧ gk = 5 - i ∧ s15 = .int .i64 (i : Nat) ∧ Hid (Again k Z i t1 s1 l1) ∧ Hid (Dk.Sep wB wr [Dk.diskI d s1, PLog g d t1 l1 1 2]))
      case atStart => exact ⟨0, _, _, _, by omega, rfl, rfl, HAG, H9⟩
      case round =>
        obtain ⟨i2, s3, t3, l3, hi2, hgk2, rfl, HR, HI⟩ := hrel
        have HG2 := Lib.hid hgk2
        clear hgk2 H9 HAG
        have c1 : wr.cell? ⟨b, 1, none⟩ = some (.int .i64 Z) := (N4.later HI.out.below).cell 1
        have HLS : Hid (l3 ≠ 0) := Lib.hid (by have := HR.out.p.ls1; omega)
        have HC2 : Hid (100 + 2 * i2 ≤ 1000) := Lib.hid (by omega)
        by_cases hlt2 : (i2 : Int) < Z
        · obtain ⟨s4, t4, l4, E, R2⟩ := HR.out.next (K := 1) (V := (i2 : Int)) (D := 9) (I := bC 98) (X := bC 118) hlt2 (by decide) (live_ok HLS.out (by decide))
          have HE := Lib.hid E
          have HR2 := Lib.hid R2
          clear E R2
          go_wp2_with fail
          refine (live_is ⟨#[98]⟩ (i2 : Int) wr).mono ?_
          rintro e' w10 ⟨rfl, hb⟩
          have HA := Lib.hid (app_live (HI.out.later hb) HR.out.p HC2.out HE.out (show (0 : Int) ≠ 9 by decide) (by omega))
          clear hb HI c1
          go_wp2_with fail
          refine HA.out.mono ?_
          rintro e' w11 ⟨rfl, h11⟩
          have HI2 : Hid (Dk.Sep wB (w11.alloc (.cells #[.int .i64 k, .int .i64 (i2 : Nat)] 67)) [Dk.diskI d s4, PLog g d t4 l4 1 2]) := Lib.hid (h11.alloc _)
          clear HA h11 HR HLS HE
          go_wp2_with fail
          go_roundg (5 - (i2 + 1))
          case measure => have := HG2.out; omega
          case rel => exact ⟨i2 + 1, s4, t4, l4, by omega, rfl, by go_num, HR2, HI2⟩
        · have hr0 : Tb.roomT t3 = 0 := by have := HR.out.room; omega
          have HE : Hid (appS t3 s3 l3 1 1 0 9 (bC 98) (bC 118) = (s3, t3, l3, 0, 0, 10)) := Lib.hid (app_full (by decide) (live_ok HLS.out (by decide)) hr0)
          clear hr0
          go_wp2_with fail
          refine (live_is ⟨#[98]⟩ 0 wr).mono ?_
          rintro e' w10 ⟨rfl, hb⟩
          have HA := Lib.hid (app_live (HI.out.later hb) HR.out.p HC2.out HE.out (show (10 : Int) ≠ 9 by decide) ⟨by decide, by decide⟩)
          clear hb HI c1
          go_wp2_with fail
          refine HA.out.mono ?_
          rintro e' w11 ⟨rfl, h11⟩
          have BBX := Lib.hid (BBA.out.trans ((h11.alloc (.cells #[.int .i64 0, .int .i64 0] 67)).below.mono BBA.out.size))
          clear HA h11 HR HLS HE
          go_wp2_with fail
          refine (fixed_any _).mono ?_
          rintro e' w12 ⟨rfl, hb⟩
          have BB7 := Lib.hid (BBX.out.trans (hb.mono BBX.out.size))
          clear hb
          go_wp2_with fail
          go_ret
          exact ⟨rfl, BB7.out⟩
set_option maxRecDepth 100000 in
theorem lifted (os : Os) (started : os.Started) (H : Type) (enc : TypeId × Value → H) :
    ReturnsInHanded {} Tryz.checked os 5 .any (Rows.logFullSpec.pre6 enc Tryz.prog Tryz.f5 Rows.logFullRow.domain false) (Rows.logFullSpec.post enc Tryz.prog Tryz.f5 false true false false) := by
  refine returnsInHanded_of_change (C := Tryz.checked) own started (by kernel_rfl) Tryz.func5
    (ChangeSpec.witness6 (enc := enc) (C := Tryz.checked) false ⟨#[], #[.agg #[.int .i64 0, .int .i64 0, .float .f64 0, .int .i64 0], .int .i64 0], []⟩ 8 (by kernel_rfl) (by kernel_rfl) (by kernel_rfl) (by kernel_rfl)) ?_
  intro W base args ds gs before hval0 hW hcnd _
  have hval : ∀ (j : Nat) t v, Tryz.f5.params[j]? = some t → args[j]? = some v → Value.okWide Tryz.prog W .any base t v := hval0
  have hW' := hW
  obtain ⟨p, q, hA0, hV, rfl, hfz, hnd⟩ := hW
  have hA : DataW.TrodAll enc Tryz.prog W 0 (fun _ => true) true Tryz.f5.params.toList args.toList ds p := hA0
  rw [Tryz.params5] at hA hval
  obtain ⟨v0, vs0, d0, ds0, p0, q0, hargs, rfl, rfl, h0, r0⟩ := trodAll_cons hA
  obtain ⟨v1, vs1, d1, ds1, p1, q1, rfl, rfl, rfl, h1, r1⟩ := trodAll_cons r0
  obtain ⟨rfl, rfl, rfl⟩ := trodAll_nil r1
  obtain rfl : args = #[v0, v1] := by cases args; simp_all
  obtain ⟨rfl, rfl⟩ := trodVars_none hV
  obtain ⟨sg0, sl0, x0, rt0, rfl, hx0⟩ := Lg.open_conf (hval 0 24 v0 rfl rfl) h0
  obtain ⟨a1, rfl, rfl, rfl, w1⟩ := open_int Tryz.underlying3 (hval 1 3 v1 rfl rfl) h1
  clear hA0 hval0
  try simp only [List.append_nil] at hW'
  try simp only [List.nil_append] at hW'
  have hlt := fun x hx => hW'.lt x hx
  refine (walk sg0 sl0 x0 rt0 a1 W hx0 w1).mono fun e W' ⟨he, hg⟩ => ?_
  subst he
  refine ⟨_, rfl, post_mem hW' (fun _ _ _ => (trodAll_cons_mk (shut_bool Tryz.underlying4 _) trodAll_mk0)) (fun sp hsp => ?_) (fun _ => rfl) hg (ok_one (by kernel_rfl) rfl (okWide_bool_mk Tryz.underlying4 _))⟩
  have hall := (trodAll_cons_mk (arg_same (sp := sp) laid (by kernel_rfl) (of_decide_eq_true (by kernel_rfl)) h0 hg (by intro x hx; simp_all) hlt hsp) (trodAll_cons_mk (arg_same (sp := sp) laid (by kernel_rfl) (of_decide_eq_true (by kernel_rfl)) h1 hg (by intro x hx; simp_all) hlt hsp) trodAll_mk0))
  try simp only [List.append_nil] at hall
  try simp only [List.nil_append] at hall
  exact hall
theorem over : Rows.logFullRow.holds Tryz.pinned (OpenSpec.ofChange Rows.logFullSpec) :=
  OpenClaim.holds_of_wide 5 Tryz.f5 rfl rfl rfl rfl rfl rfl rfl ⟨rfl, rfl, rfl, rfl, rfl⟩ rfl rfl rfl rfl rfl (by kernel_rfl) Tryz.func5 (by kernel_rfl)
    (of_decide_eq_true (by kernel_rfl)) (by unfold Func.isWrapper; first | (rw [if_pos (by decide +kernel)]; kernel_rfl) | (rw [if_neg (by decide +kernel)]; exact ⟨rfl, rfl⟩))
    (fun os started H enc _ => lifted os started H enc)
theorem proved : Rows.LogFullSaid := over
#print axioms proved
end Go.Proofs.YtdpmjlbkojhooaaGreat.logFull
