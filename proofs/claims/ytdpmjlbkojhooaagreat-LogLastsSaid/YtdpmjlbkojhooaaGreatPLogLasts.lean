/- For every conf, every number of records, and every limit and crash the statement LogLasts about seglog returns true, and changes nothing. Conditions: none. -/
import Derived.Test.YtdpmjlbkojhooaaGreatPLiH
import Derived.Deep.DeepCutAuto
import Derived.Deep.LoopGhost
import Derived.Deep.RegionWith
import Derived.StillTailTactics
import Derived.WalkSmall
import Derived.IntWalk
import Derived.ProofKit
import Derived.OpenShut
import Derived.ShutString
import Derived.SizedLaws
namespace Go.Proofs.YtdpmjlbkojhooaaGreat.logLasts
open Go.ChangeShapes Go.WideShapes Go.ChangeAt Go.RowKit Go.Lib Go.MapKept
open Go.ChangeMaps (open_string shut_string)
set_option linter.unusedVariables false
theorem own : ownKnob Tryz.prog.godebug = none := by kernel_rfl
theorem laid : laidOutB Tryz.prog = true := by kernel_rfl
set_option maxRecDepth 100000
open Lg
open Tb (Tab TIn Sl okP csT lastN nth Fresh)
open Dk (St Only Grew)
theorem dread_atL {W w : World} {items : List Dk.Item} {k d : Nat} {s : St} (h : Dk.Sep W w items) (hk : items[k]? = some (Dk.diskI d s)) (i : Int) (hi : s.has i) :
    Calls Tryz.prog 36 #[.pointer (some ⟨d, 0, none⟩), .int .i64 i] w fun e w' => e = .returned (.tuple #[.string (s.cur i), .int .i64 0]) ∧ Dk.Sep W w' items :=
  Dk.read_s h k hk i hi _ rfl
set_option maxHeartbeats 64000000 in
theorem walk (sg sl : Int) (x : Nat) (rt : Int) (n8 : Int) (lim : Int) (KA : Option Addr) (KN kc : Nat) (kp : Nat → Bool) (torn pos : Int) (w : World) (hx : x < 18446744073709551616) (hn8 : (Lit.int .u8 n8).wf = true) (hlim : -9223372036854775808 ≤ lim ∧ lim ≤ 9223372036854775807) (hKN : KN ≤ maxLen) (hKC : CellsIn w KA KN (fun j => .bool (kp j))) (hKF : ∀ j, KN ≤ j → kp j = false) :
    Calls Tryz.prog 6 #[.agg #[.int .i64 sg, .int .i64 sl, .float .f64 x, .int .i64 rt], .int .u8 n8, .agg #[.int .i64 lim, .slice KA KN kc, .int .i64 torn, .int .i64 pos]] w fun e w' => e = .returned (.bool true) ∧ Below w.heap.size w w' := by
  have hl8 : 0 ≤ n8 ∧ n8 ≤ 255 := by
    simp [Lit.wf] at hn8
    exact ⟨hn8.1, hn8.2⟩
  have HLM := Lib.hid hlim
  have HKN := Lib.hid hKN
  have HKC := Lib.hid hKC
  have HKF := Lib.hid hKF
  clear hn8 hlim hKN hKC hKF
  have N4 : Tb.Blk (w.alloc (.cells (csF sg sl x rt) 24)) w.heap.size 24 (csF sg sl x rt) := Tb.Blk.new w _ _
  have BBA := Lib.hid (Tb.below1 w (.cells (csF sg sl x rt) 24))
  have N5 : Tb.Blk ((w.alloc (.cells (csF sg sl x rt) 24)).alloc (.cells #[.int .i64 lim, .slice KA KN kc, .int .i64 torn, .int .i64 pos] 83)) (w.heap.size + 1) 83 #[.int .i64 lim, .slice KA KN kc, .int .i64 torn, .int .i64 pos] := by
    have := Tb.Blk.new (w.alloc (.cells (csF sg sl x rt) 24)) 83 #[.int .i64 lim, .slice KA KN kc, .int .i64 torn, .int .i64 pos]
    rw [show (w.alloc (.cells (csF sg sl x rt) 24)).heap.size = w.heap.size + 1 by simp] at this
    exact this
  replace N4 := N4.later (Tb.below1 _ (.cells #[.int .i64 lim, .slice KA KN kc, .int .i64 torn, .int .i64 pos] 83))
  replace BBA := Lib.hid (BBA.out.trans ((Tb.below1 (w.alloc (.cells (csF sg sl x rt) 24)) (.cells #[.int .i64 lim, .slice KA KN kc, .int .i64 torn, .int .i64 pos] 83)).mono BBA.out.size))
  go_enter Tryz.func6, Tryz.ntmps6
  go_upto_region 1 with fail
  change Code.wp _ _ _ _ ((w.alloc (.cells (csF sg sl x rt) 24)).alloc (.cells #[.int .i64 lim, .slice KA KN kc, .int .i64 torn, .int .i64 pos] 83))
  obtain ⟨b, Eb⟩ : ∃ z, w.heap.size = z := ⟨_, rfl⟩
  have HWB : Hid (w.heap.size = b) := Lib.hid Eb
  rw [Eb] at N4 N5 ⊢
  clear Eb
  generalize (w.alloc (.cells (csF sg sl x rt) 24)).alloc (.cells #[.int .i64 lim, .slice KA KN kc, .int .i64 torn, .int .i64 pos] 83) = wA at *
  have HSM := Lib.hid (small_any sg sl rt x wA hx)
  obtain ⟨G, EG⟩ : ∃ z, smG sg sl x rt = z := ⟨_, rfl⟩
  obtain ⟨Z, EZ⟩ : ∃ z, smL sg sl x rt = z := ⟨_, rfl⟩
  have HSB : Hid (Ck.MayC G Z x rt → G ≤ 6 ∧ Z ≤ 5) := Lib.hid (fun h => by
    by_cases hm : Ck.MayC sg sl x rt
    · have := small_may hm
      rw [EG, EZ] at this
      exact this.2
    · exact absurd (by rw [EG, EZ]; exact h) (small_not hm))
  rw [EG, EZ] at HSM
  clear EG EZ
  go_wp2_with (with_reducible refine load_cf rfl (.tmp 3) rfl b rfl N4 ?_)
  refine HSM.out.mono ?_
  rintro e' w1 ⟨rfl, hb1⟩
  replace N4 := N4.later hb1
  replace N5 := N5.later hb1
  replace BBA := Lib.hid (BBA.out.trans (hb1.mono BBA.out.size))
  clear HSM hb1
  go_upto_region 2 with (with_reducible refine store_cf rfl (.tmp 3) (.tmp 23) rfl b rfl rfl N4 ?_)
  replace N5 : Tb.Blk (w1.setRow b (csF G Z x rt)) (b + 1) 83 #[.int .i64 lim, .slice KA KN kc, .int .i64 torn, .int .i64 pos] := (setRow_other w1 b (b + 1) _ (by omega)).trans N5
  replace N4 := N4.row (csF G Z x rt)
  replace BBA := Lib.hid (Tb.below_row BBA.out (show w.heap.size ≤ b by have := HWB.out; omega) (csF G Z x rt))
  generalize w1.setRow b (csF G Z x rt) = wB at *
  by_cases hm : Ck.MayC G Z x rt
  case neg =>
    have HC := Lib.hid (fun w => Ck.R4.may_no G Z rt x w hx hm)
    go_wp2_with (with_reducible refine load_cf rfl (.tmp 3) rfl b rfl N4 ?_)
    refine (HC.out _).mono ?_
    rintro e' w2 ⟨rfl, hb⟩
    have BB2 := Lib.hid (BBA.out.trans (hb.mono BBA.out.size))
    clear hb HC N4 N5
    go_wp2_with fail
    refine (fixed_any _).mono ?_
    rintro e' w3 ⟨rfl, hb⟩
    have BB3 := Lib.hid (BB2.out.trans (hb.mono BB2.out.size))
    clear hb
    go_wp2_with fail
    go_ret
    exact ⟨rfl, BB3.out⟩
  have HB6 := HSB.out hm
  have HN0 := Lib.hid (new_yes (x := x) (rt := rt) hm HB6.1 HB6.2).2
  have HMD := Lib.hid (fun w (h : Below wB.heap.size wB w) => made_new (w0 := wB) h hx hm HB6.1 HB6.2)
  have HC := Lib.hid (fun w => Ck.R4.may_yes G Z rt x w hm)
  have HSC := Lib.hid (fun w => Ck.R4.sectors_any G Z rt x w hx)
  have HSE := Lib.hid (sc_may hm)
  have HC1 := Lib.hid (new_cur1 (x := x) (rt := rt) hm HB6.1 HB6.2)
  clear hm HB6 HSB
  generalize Ck.scC G Z x rt = sc at *
  generalize nD G Z x rt = s0 at *
  generalize Tb.newT G Z 1 = t0 at *
  go_wp2_with (with_reducible refine load_cf rfl (.tmp 3) rfl b rfl N4 ?_)
  refine (HC.out _).mono ?_
  rintro e' w2 ⟨rfl, hb⟩
  have KEY2 : Below wB.heap.size wB w2.drew := hb.drew
  have f0 : w2.cell? ⟨b, 0, none⟩ = some (.int .i64 G) := (N4.later hb).cell 0
  have f1 : w2.cell? ⟨b, 1, none⟩ = some (.int .i64 Z) := (N4.later hb).cell 1
  have f2 : w2.cell? ⟨b, 2, none⟩ = some (.float .f64 x) := (N4.later hb).cell 2
  have f3 : w2.cell? ⟨b, 3, none⟩ = some (.int .i64 rt) := (N4.later hb).cell 3
  have KEY : Hid (∀ W', Below w2.drew.heap.size w2.drew W' → Below wB.heap.size wB W' ∧ W'.cell? ⟨b, 0, none⟩ = some (.int .i64 G) ∧ W'.cell? ⟨b, 1, none⟩ = some (.int .i64 Z) ∧ W'.cell? ⟨b, 2, none⟩ = some (.float .f64 x) ∧ W'.cell? ⟨b, 3, none⟩ = some (.int .i64 rt)) := Lib.hid (fun W' hb' => by
    have hB := KEY2.trans (hb'.mono KEY2.size)
    have M := N4.later hB
    exact ⟨hB, M.cell 0, M.cell 1, M.cell 2, M.cell 3⟩)
  clear hb HC
  have hbD : Below wB.heap.size wB w2.drew := KEY2
  go_upto_region 4 with fail
  go_cut [7, 8, 9] from 28 to 35 (fun s5 s6 s7 wx => ∃ g d, s5 = .pointer (some ⟨g, 0, none⟩) ∧ s6 = .pointer (some ⟨d, 0, none⟩) ∧ s7 = .int .i64 0 ∧ Dk.Sep wB wx [Dk.diskI d s0, PLog g d t0 1 1 1])
  case first =>
    go_region_with (first
      | (go_at_call 21; refine (HSC.out _).mono ?_; rintro e5 w5 ⟨rfl, hb5⟩; obtain ⟨e51, e52, e53, e54, e55⟩ := KEY.out w5 hb5)
      | (go_at_call 11; refine (HMD.out _ (by assumption)).mono ?_; rintro e6 w6 ⟨g, d, rfl, h6⟩))
    all_goals
      go_wp2_with fail
      go_meet
      exact ⟨_, _, rfl, rfl, rfl, h6⟩
  case rest =>
  obtain ⟨g, d, rfl, rfl, rfl, h3⟩ := hcut
  clear KEY KEY2 f0 f1 f2 f3 HMD hbD
  obtain ⟨m, Em⟩ : ∃ z, G * Z = z := ⟨_, rfl⟩
  have hZ5 := HN0.out.z
  have hG6 := HN0.out.g
  have hm30 : 1 ≤ m ∧ m ≤ 30 := by
    rw [← Em]
    refine ⟨?_, Int.mul_le_mul (show G ≤ 6 by omega) (show Z ≤ 5 by omega) (by omega) (by omega)⟩
    have := Int.mul_le_mul (show (1 : Int) ≤ G by omega) (show (1 : Int) ≤ Z by omega) (by omega) (by omega)
    omega
  have HGZ := Lib.hid Em
  obtain ⟨u, Eu⟩ : ∃ z, n8.tmod 20 = z := ⟨_, rfl⟩
  have hu : 0 ≤ u ∧ u < 20 := by rw [← Eu, Int.tmod_eq_emod_of_nonneg hl8.1]; omega
  have Eu2 : n8 % 20 = u := by rw [← Int.tmod_eq_emod_of_nonneg hl8.1]; exact Eu
  obtain ⟨many, Ey⟩ : ∃ z, u.tmod m = z := ⟨_, rfl⟩
  have Ey2 : u % m = many := by rw [← Int.tmod_eq_emod_of_nonneg hu.1]; exact Ey
  have hmany : 0 ≤ many ∧ many < m ∧ many < 20 := by
    rw [← Ey2]
    have h1 := Int.emod_nonneg u (show m ≠ 0 by omega)
    have h2 := Int.emod_lt_of_pos u (show 0 < m by omega)
    refine ⟨h1, h2, ?_⟩
    by_cases hum : u < m
    · rw [Int.emod_eq_of_lt hu.1 hum]
      omega
    · omega
  have qm0 : (m == 0) = false := by simp; omega
  have HRN := Lib.hid (run_new HN0.out)
  have HSN : Hid (s0.set = false ∧ s0.cur 1 = S0) := Lib.hid ⟨HN0.out.set, HC1.out⟩
  have c0 : wc.cell? ⟨b, 0, none⟩ = some (.int .i64 G) := (N4.later h3.below).cell 0
  have c1 : wc.cell? ⟨b, 1, none⟩ = some (.int .i64 Z) := (N4.later h3.below).cell 1
  have h4 := Lib.hid h3
  clear h3 HN0 HC1
  go_wp2_with fail
  clear c0 c1
  go_loopg [11] 20 (fun gk s11 wr => ∃ (i : Nat) (s1 : St) (t1 : Tab) (l1 : Int), (i : Int) ≤ many ∧ gk = 20 - i ∧ s11 = .int .i64 (i : Nat) ∧ Hid (Run G Z i t1 s1 l1) ∧ Hid (s1.set = false ∧ s1.cur 1 = S0) ∧ Hid (Dk.Sep wB wr [Dk.diskI d s1, PLog g d t1 l1 1 1]))
  case atStart => exact ⟨0, _, _, _, by omega, rfl, rfl, HRN, HSN, h4⟩
  case round =>
    obtain ⟨i, s1, t1, l1, hi, hgk, rfl, HR, HSET, HI⟩ := hrel
    have HG := Lib.hid hgk
    clear hgk h4 HSN HRN
    have HLS : Hid (l1 ≠ 0) := Lib.hid (by have := HR.out.p.ls1; omega)
    have HCC : Hid (2 * i ≤ 1000) := Lib.hid (by omega)
    by_cases hlt : (i : Int) < many
    · obtain ⟨s2, t2, l2, p1, p2, E, R2, S1, _⟩ := HR.out.next (K := 1) (V := (i : Int) + 1) (D := 9) (I := bC 97) (X := bC 118) (by rw [HGZ.out]; omega) (by decide) (live_ok HLS.out (by decide)) (fun h => by rw [HSET.out.1] at h; cases h)
      have hq := app_cur1 (ep := 1) (K := 1) (V := (i : Int) + 1) (D := 9) (I := bC 97) (X := bC 118) HR.out.p
      rw [E] at hq
      have HE := Lib.hid E
      have HR2 := Lib.hid R2
      have HS2 : Hid (s2.set = false ∧ s2.cur 1 = S0) := Lib.hid ⟨S1.trans HSET.out.1, hq.trans HSET.out.2⟩
      clear E R2 S1 hq
      go_wp2_with fail
      refine (live_is ⟨#[97]⟩ ((i : Int) + 1) wr).mono ?_
      rintro e' w5 ⟨rfl, hb⟩
      have HA := Lib.hid (app_live (HI.out.later hb) HR.out.p HCC.out HE.out (show (0 : Int) ≠ 9 by decide) (by omega))
      clear hb HI
      go_wp2_with fail
      refine HA.out.mono ?_
      rintro e' w6 ⟨rfl, h6⟩
      have HI2 : Hid (Dk.Sep wB (w6.alloc (.cells #[.int .i64 p1, .int .i64 p2] 67)) [Dk.diskI d s2, PLog g d t2 l2 1 1]) := Lib.hid (h6.alloc _)
      clear HA h6 HR HSET HLS HE
      go_wp2_with fail
      go_roundg (20 - (i + 1))
      case measure => have := HG.out; omega
      case rel => exact ⟨i + 1, s2, t2, l2, by omega, rfl, by go_num, HR2, HS2, HI2⟩
    · obtain ⟨s3, s4, g4, e4, T, hE3, hp3, hpL, hE4, hz4, hpl4, hc0, hc1, hTz, hSz, hb0, hb1⟩ := lasts_two (many := many) (lim := lim) (torn := torn) (keep := kp) (n := Dk.clampN pos) HR.out.p HCC.out HSET.out.1 HSET.out.2 (by omega) HLM.out (clamp_le pos)
      have HP3 := Lib.hid hp3
      have HPL := Lib.hid hpL
      have HE4 := Lib.hid hE4
      have HZ4 := Lib.hid hz4
      have HPD := Lib.hid hpl4
      have HQ0 := Lib.hid hc0
      have HQ1 := Lib.hid hc1
      have HTZ := Lib.hid hTz
      have HSZ := Lib.hid hSz
      have HB0 := Lib.hid hb0
      have HB1 := Lib.hid hb1
      have HLB := Lib.hid (And.intro HR.out.p.ls1 HR.out.p.ls2)
      have HOK := Lib.hid HR.out.p.ok
      have HA := Lib.hid (chk_fix HI.out HR.out.p HCC.out (ver := many) (by omega) (chkB_eq t1 1 1 l1 many) hE3)
      clear hE3 hp3 hpL hE4 hz4 hpl4 hc0 hc1 hTz hSz hb0 hb1 HI HSET
      generalize chkB t1 1 1 l1 many = SA at *
      go_wp2_with fail
      refine HA.out.mono ?_
      rintro e' w5 ⟨rfl, it, h5, hit⟩
      rw [hit (show (0 : Int) ≠ 9 by decide)] at h5
      have H5 := Lib.hid h5
      clear HA h5 hit
      go_wp2_with fail
      refine (tab_keep H5.out).mono ?_
      rintro e' w6 ⟨A, m9, p9, B, k9, q9, C, n9, r9, rfl, h6⟩
      clear H5
      go_upto_region 17 with fail
      have h7 := loc_new (l := [(w6.heap.size, 64, csT t1.sg t1.st A m9 p9 B k9 q9 C n9 r9)]) h6 (Tb.below1 w6 (.cells (csT t1.sg t1.st A m9 p9 B k9 q9 C n9 r9) 64)) (fun x hx => by rcases List.mem_cons.1 hx with rfl | hx; exact Tb.Blk.new w6 _ _; cases hx) (fun x hx => by rcases List.mem_cons.1 hx with rfl | hx; exact Nat.le_refl _; cases hx)
      replace h7 : Dk.Sep wB (w6.alloc (.cells (csT t1.sg t1.st A m9 p9 B k9 q9 C n9 r9) 64)) [Dk.diskI d s3, PLog g d t1 l1 1 2, tabI A m9 B k9 t1.o t1.l, locI [(w6.heap.size, 64, csT t1.sg t1.st A m9 p9 B k9 q9 C n9 r9)]] := h7
      clear h6
      change Code.wp _ _ _ _ (w6.alloc (.cells (csT t1.sg t1.st A m9 p9 B k9 q9 C n9 r9) 64))
      generalize w6.alloc (.cells (csT t1.sg t1.st A m9 p9 B k9 q9 C n9 r9) 64) = w7 at *
      generalize w6.heap.size = b14 at *
      have c0 : w7.cell? ⟨b + 1, 0, none⟩ = some (.int .i64 lim) := (N5.later h7.below).cell 0
      have HL2 := Lib.hid (limit_s h7 (k := 0) rfl lim HLM.out.1 HLM.out.2)
      clear h7
      go_wp2_with fail
      refine HL2.out.mono ?_
      rintro e' w8 ⟨rfl, h8⟩
      have HA := Lib.hid (chk_fix h8 HPL.out (show 2 * i + 1 ≤ 1000 by have := HCC.out; omega) (ver := 99) ⟨by decide, by decide⟩ (chkB_eq t1 2 1 l1 99) HE4.out)
      clear HL2 c0 h8
      go_wp2_with fail
      refine HA.out.mono ?_
      rintro e' w9 ⟨rfl, it, h9, _⟩
      clear HA
      have c1 : w9.cell? ⟨b + 1, 1, none⟩ = some (.slice KA KN kc) := (N5.later h9.below).cell 1
      have c2 : w9.cell? ⟨b + 1, 2, none⟩ = some (.int .i64 torn) := (N5.later h9.below).cell 2
      have c3 : w9.cell? ⟨b + 1, 3, none⟩ = some (.int .i64 pos) := (N5.later h9.below).cell 3
      have HCR := Lib.hid (Dk.crash_arg_s h9 0 rfl KA KN kc HKN.out kp torn pos (HKC.out.later BBA.out) HKF.out HPD.out)
      clear h9
      go_wp2_with fail
      refine HCR.out.mono ?_
      rintro e' w10 ⟨rfl, h10⟩
      replace h10 : Dk.Sep wB w10 [Dk.diskI d (s4.crash kp torn (Dk.clampN pos)), it, tabI A m9 B k9 t1.o t1.l, locI [(b14, 64, csT t1.sg t1.st A m9 p9 B k9 q9 C n9 r9)]] := h10
      have HD0 := Lib.hid (dread_atL h10 (k := 0) rfl 0 ⟨by decide, by show 0 < s4.size; have := HZ4.out; omega⟩)
      rw [HQ0.out] at HD0
      clear HCR c1 c2 c3 h10
      go_wp2_with fail
      refine HD0.out.mono ?_
      rintro e' w11 ⟨rfl, h11⟩
      have HD1 := Lib.hid (dread_atL h11 (k := 0) rfl 1 ⟨by decide, by show 1 < s4.size; have := HZ4.out; omega⟩)
      rw [HQ1.out] at HD1
      clear HD0 h11
      go_wp2_with fail
      refine HD1.out.mono ?_
      rintro e' w12 ⟨rfl, h12⟩
      have H12 := Lib.hid h12
      clear HD1 h12
      have HBT := Lib.hid (Cp.best_any SA T w12 (by have := HSZ.out; unfold maxLen; omega) (by have := HTZ.out; unfold maxLen; omega))
      unfold Cp.BestP at HBT
      rw [HB0.out] at HBT
      go_wp2_with fail
      refine HBT.out.mono ?_
      rintro e' w13 ⟨hb, y, rfl, hy⟩
      have H13 := Lib.hid (H12.out.later hb)
      clear hb H12 HBT
      generalize Cp.bestI SA.data.toList T.data.toList = bi
      generalize Cp.bestC SA.data.toList T.data.toList = cc at *
      rcases HB1.out with rfl | rfl
      · obtain ⟨YA, ym, yp, YB, yk, yq, rfl, ya, yb, _⟩ := hy
        have HYA := Lib.hid (slTb ya)
        have HYB := Lib.hid (slTb yb)
        clear ya yb
        go_upto_region 23 with fail
        have H14 : Hid (Dk.Sep wB (w13.alloc (.cells #[.int .u64 2, .int .u32 1, .int .u64 l1, .int .u64 many, .slice YA ym yp, .slice YB yk yq] 89)) [Dk.diskI d (s4.crash kp torn (Dk.clampN pos)), it, tabI A m9 B k9 t1.o t1.l, locI [(b14, 64, csT t1.sg t1.st A m9 p9 B k9 q9 C n9 r9)]]) := Lib.hid (H13.out.alloc _)
        have M19 : Tb.Blk (w13.alloc (.cells #[.int .u64 2, .int .u32 1, .int .u64 l1, .int .u64 many, .slice YA ym yp, .slice YB yk yq] 89)) w13.heap.size 89 #[.int .u64 2, .int .u32 1, .int .u64 l1, .int .u64 many, .slice YA ym yp, .slice YB yk yq] := Tb.Blk.new w13 _ _
        replace HYA := Lib.hid (HYA.out.later (Tb.below1 w13 (.cells #[.int .u64 2, .int .u32 1, .int .u64 l1, .int .u64 many, .slice YA ym yp, .slice YB yk yq] 89)))
        replace HYB := Lib.hid (HYB.out.later (Tb.below1 w13 (.cells #[.int .u64 2, .int .u32 1, .int .u64 l1, .int .u64 many, .slice YA ym yp, .slice YB yk yq] 89)))
        clear H13
        generalize w13.alloc (.cells #[.int .u64 2, .int .u32 1, .int .u64 l1, .int .u64 many, .slice YA ym yp, .slice YB yk yq] 89) = w14 at *
        generalize w13.heap.size = b19 at *
        have M14 : Tb.Blk w14 b14 64 (csT t1.sg t1.st A m9 p9 B k9 q9 C n9 r9) := loc_at H14.out (k := 3) rfl _ (List.mem_cons_self ..)
        have y0 : w14.cell? ⟨b19, 0, none⟩ = some (.int .u64 2) := M19.cell 0
        have y3 : w14.cell? ⟨b19, 3, none⟩ = some (.int .u64 many) := M19.cell 3
        have y4 : w14.cell? ⟨b19, 4, none⟩ = some (.slice YA ym yp) := M19.cell 4
        have x2 : w14.cell? ⟨b14, 2, none⟩ = some (.slice A m9 p9) := M14.cell 2
        have HT14 := Lib.hid (tab_kept H14.out (j := 2) rfl)
        have hmo : ym ≤ maxLen := by
          have h1 := HYA.out.len
          have h2 := Tb.ok_bd HOK.out
          unfold maxLen
          omega
        have hko : yk ≤ maxLen := by
          have h1 := HYB.out.len
          have h2 := Tb.ok_bd HOK.out
          have h3 := HOK.out.2.2.2.2.2.2.1
          unfold maxLen
          omega
        have HMO := Lib.hid hmo
        have HI1 := Lib.hid (Tb.ints_yes YA ym yp A m9 p9 t1.o w14 HYA.out HT14.out.1 hmo)
        have HKO := Lib.hid hko
        clear hmo hko
        go_wp2_with fail
        refine HI1.out.mono ?_
        rintro e' w15 ⟨rfl, hb⟩
        have H15 := Lib.hid (H14.out.later hb)
        have M19b := M19.later hb
        have M14b := M14.later hb
        have HYA2 := Lib.hid (HYA.out.later hb)
        have HYB2 := Lib.hid (HYB.out.later hb)
        clear HI1 M19 M14 HYA HYB y0 y3 y4 x2 hb H14 HT14
        have y5 : w15.cell? ⟨b19, 5, none⟩ = some (.slice YB yk yq) := M19b.cell 5
        have x3 : w15.cell? ⟨b14, 3, none⟩ = some (.slice B k9 q9) := M14b.cell 3
        have HI1 := Lib.hid (Tb.ints_yes YB yk yq B k9 q9 t1.l w15 HYB2.out (tab_kept H15.out (j := 2) rfl).2 HKO.out)
        go_wp2_with fail
        refine HI1.out.mono ?_
        rintro e' w16 ⟨rfl, hb⟩
        have H16 := Lib.hid (H15.out.later hb)
        have M19c := M19b.later hb
        have HYA3 := Lib.hid (HYA2.out.later hb)
        have HYB3 := Lib.hid (HYB2.out.later hb)
        clear HI1 M19b M14b HYA2 HYB2 y5 x3 hb H15
        have y0 : w16.cell? ⟨b19, 0, none⟩ = some (.int .u64 2) := M19c.cell 0
        have y1 : w16.cell? ⟨b19, 1, none⟩ = some (.int .u32 1) := M19c.cell 1
        have y2 : w16.cell? ⟨b19, 2, none⟩ = some (.int .u64 l1) := M19c.cell 2
        have y3 : w16.cell? ⟨b19, 3, none⟩ = some (.int .u64 many) := M19c.cell 3
        have y4 : w16.cell? ⟨b19, 4, none⟩ = some (.slice YA ym yp) := M19c.cell 4
        have y5 : w16.cell? ⟨b19, 5, none⟩ = some (.slice YB yk yq) := M19c.cell 5
        go_wp2_with fail
        refine (Cp.ref_any 2 1 l1 many YA ym yp YB yk yq w16).mono ?_
        rintro e' w17 ⟨rfl, hb⟩
        have H17 := Lib.hid (H16.out.later hb)
        have HRT := Lib.hid (Cp.R7.right_is 2 1 l1 many YA ym yp YB yk yq t1.o t1.l true w17 (slC (κ := .i64) (HYA3.out.later hb)) (slC (κ := .i64) (HYB3.out.later hb)) HMO.out (by decide) (by have := HLB.out.1; omega) (okC_of HOK.out (by decide) (by have := HLB.out.1; omega)))
        clear hb H16 M19c HYA3 HYB3 y0 y1 y2 y3 y4 y5
        go_wp2_with fail
        refine HRT.out.mono ?_
        rintro e' w18 ⟨rfl, hb⟩
        have BB8 := Lib.hid (BBA.out.trans ((H17.out.later hb).below.mono BBA.out.size))
        clear hb H17 HRT
        go_wp2_with fail
        refine (fixed_any _).mono ?_
        rintro e' w19 ⟨rfl, hb⟩
        have BB9 := Lib.hid (BB8.out.trans (hb.mono BB8.out.size))
        clear hb
        go_wp2_with fail
        go_ret
        exact ⟨rfl, BB9.out⟩
      · obtain ⟨YA, ym, yp, YB, yk, yq, rfl, ya, yb, _⟩ := hy
        have HYA := Lib.hid (slTb ya)
        have HYB := Lib.hid (slTb yb)
        clear ya yb
        go_upto_region 23 with fail
        have H14 : Hid (Dk.Sep wB (w13.alloc (.cells #[.int .u64 3, .int .u32 1, .int .u64 l1, .int .u64 99, .slice YA ym yp, .slice YB yk yq] 89)) [Dk.diskI d (s4.crash kp torn (Dk.clampN pos)), it, tabI A m9 B k9 t1.o t1.l, locI [(b14, 64, csT t1.sg t1.st A m9 p9 B k9 q9 C n9 r9)]]) := Lib.hid (H13.out.alloc _)
        have M19 : Tb.Blk (w13.alloc (.cells #[.int .u64 3, .int .u32 1, .int .u64 l1, .int .u64 99, .slice YA ym yp, .slice YB yk yq] 89)) w13.heap.size 89 #[.int .u64 3, .int .u32 1, .int .u64 l1, .int .u64 99, .slice YA ym yp, .slice YB yk yq] := Tb.Blk.new w13 _ _
        replace HYA := Lib.hid (HYA.out.later (Tb.below1 w13 (.cells #[.int .u64 3, .int .u32 1, .int .u64 l1, .int .u64 99, .slice YA ym yp, .slice YB yk yq] 89)))
        replace HYB := Lib.hid (HYB.out.later (Tb.below1 w13 (.cells #[.int .u64 3, .int .u32 1, .int .u64 l1, .int .u64 99, .slice YA ym yp, .slice YB yk yq] 89)))
        clear H13
        generalize w13.alloc (.cells #[.int .u64 3, .int .u32 1, .int .u64 l1, .int .u64 99, .slice YA ym yp, .slice YB yk yq] 89) = w14 at *
        generalize w13.heap.size = b19 at *
        have M14 : Tb.Blk w14 b14 64 (csT t1.sg t1.st A m9 p9 B k9 q9 C n9 r9) := loc_at H14.out (k := 3) rfl _ (List.mem_cons_self ..)
        have y0 : w14.cell? ⟨b19, 0, none⟩ = some (.int .u64 3) := M19.cell 0
        have y3 : w14.cell? ⟨b19, 3, none⟩ = some (.int .u64 99) := M19.cell 3
        have y4 : w14.cell? ⟨b19, 4, none⟩ = some (.slice YA ym yp) := M19.cell 4
        have x2 : w14.cell? ⟨b14, 2, none⟩ = some (.slice A m9 p9) := M14.cell 2
        have HT14 := Lib.hid (tab_kept H14.out (j := 2) rfl)
        have hmo : ym ≤ maxLen := by
          have h1 := HYA.out.len
          have h2 := Tb.ok_bd HOK.out
          unfold maxLen
          omega
        have hko : yk ≤ maxLen := by
          have h1 := HYB.out.len
          have h2 := Tb.ok_bd HOK.out
          have h3 := HOK.out.2.2.2.2.2.2.1
          unfold maxLen
          omega
        have HMO := Lib.hid hmo
        have HI1 := Lib.hid (Tb.ints_yes YA ym yp A m9 p9 t1.o w14 HYA.out HT14.out.1 hmo)
        have HKO := Lib.hid hko
        clear hmo hko
        have qv : ((99 : Int) == many) = false := by simp; omega
        go_wp2_with fail
        refine HI1.out.mono ?_
        rintro e' w15 ⟨rfl, hb⟩
        have H15 := Lib.hid (H14.out.later hb)
        have M19b := M19.later hb
        have M14b := M14.later hb
        have HYA2 := Lib.hid (HYA.out.later hb)
        have HYB2 := Lib.hid (HYB.out.later hb)
        clear HI1 M19 M14 HYA HYB y0 y3 y4 x2 hb H14 HT14
        have y5 : w15.cell? ⟨b19, 5, none⟩ = some (.slice YB yk yq) := M19b.cell 5
        have x3 : w15.cell? ⟨b14, 3, none⟩ = some (.slice B k9 q9) := M14b.cell 3
        have HI1 := Lib.hid (Tb.ints_yes YB yk yq B k9 q9 t1.l w15 HYB2.out (tab_kept H15.out (j := 2) rfl).2 HKO.out)
        go_wp2_with fail
        refine HI1.out.mono ?_
        rintro e' w16 ⟨rfl, hb⟩
        have H16 := Lib.hid (H15.out.later hb)
        have M19c := M19b.later hb
        have HYA3 := Lib.hid (HYA2.out.later hb)
        have HYB3 := Lib.hid (HYB2.out.later hb)
        clear HI1 M19b M14b HYA2 HYB2 y5 x3 hb H15
        have y0 : w16.cell? ⟨b19, 0, none⟩ = some (.int .u64 3) := M19c.cell 0
        have y1 : w16.cell? ⟨b19, 1, none⟩ = some (.int .u32 1) := M19c.cell 1
        have y2 : w16.cell? ⟨b19, 2, none⟩ = some (.int .u64 l1) := M19c.cell 2
        have y3 : w16.cell? ⟨b19, 3, none⟩ = some (.int .u64 99) := M19c.cell 3
        have y4 : w16.cell? ⟨b19, 4, none⟩ = some (.slice YA ym yp) := M19c.cell 4
        have y5 : w16.cell? ⟨b19, 5, none⟩ = some (.slice YB yk yq) := M19c.cell 5
        go_wp2_with fail
        refine (Cp.ref_any 3 1 l1 99 YA ym yp YB yk yq w16).mono ?_
        rintro e' w17 ⟨rfl, hb⟩
        have H17 := Lib.hid (H16.out.later hb)
        have HRT := Lib.hid (Cp.R7.right_is 3 1 l1 99 YA ym yp YB yk yq t1.o t1.l true w17 (slC (κ := .i64) (HYA3.out.later hb)) (slC (κ := .i64) (HYB3.out.later hb)) HMO.out (by decide) (by have := HLB.out.1; omega) (okC_of HOK.out (by decide) (by have := HLB.out.1; omega)))
        clear hb H16 M19c HYA3 HYB3 y0 y1 y2 y3 y4 y5
        go_wp2_with fail
        refine HRT.out.mono ?_
        rintro e' w18 ⟨rfl, hb⟩
        have BB8 := Lib.hid (BBA.out.trans ((H17.out.later hb).below.mono BBA.out.size))
        clear hb H17 HRT
        go_wp2_with fail
        refine (fixed_any _).mono ?_
        rintro e' w19 ⟨rfl, hb⟩
        have BB9 := Lib.hid (BB8.out.trans (hb.mono BB8.out.size))
        clear hb
        go_wp2_with fail
        go_ret
        exact ⟨rfl, BB9.out⟩
set_option maxRecDepth 100000 in
theorem lifted (os : Os) (started : os.Started) (H : Type) (enc : TypeId × Value → H) :
    ReturnsInHanded {} Tryz.checked os 6 .any (Rows.logLastsSpec.pre6 enc Tryz.prog Tryz.f6 Rows.logLastsRow.domain false) (Rows.logLastsSpec.post enc Tryz.prog Tryz.f6 false true false false) := by
  refine returnsInHanded_of_change (C := Tryz.checked) own started (by kernel_rfl) Tryz.func6
    (ChangeSpec.witness6 (enc := enc) (C := Tryz.checked) false ⟨#[], #[.agg #[.int .i64 0, .int .i64 0, .float .f64 0, .int .i64 0], .int .u8 0, .agg #[.int .i64 0, .slice none 0 0, .int .i64 0, .int .i64 0]], []⟩ 8 (by kernel_rfl) (by kernel_rfl) (by kernel_rfl) (by kernel_rfl)) ?_
  intro W base args ds gs before hval0 hW hcnd _
  have hval : ∀ (j : Nat) t v, Tryz.f6.params[j]? = some t → args[j]? = some v → Value.okWide Tryz.prog W .any base t v := hval0
  have hW' := hW
  obtain ⟨p, q, hA0, hV, rfl, hfz, hnd⟩ := hW
  have hA : DataW.TrodAll enc Tryz.prog W 0 (fun _ => true) true Tryz.f6.params.toList args.toList ds p := hA0
  rw [Tryz.params6] at hA hval
  obtain ⟨v0, vs0, d0, ds0, p0, q0, hargs, rfl, rfl, h0, r0⟩ := trodAll_cons hA
  obtain ⟨v1, vs1, d1, ds1, p1, q1, rfl, rfl, rfl, h1, r1⟩ := trodAll_cons r0
  obtain ⟨v2, vs2, d2, ds2, p2, q2, rfl, rfl, rfl, h2, r2⟩ := trodAll_cons r1
  obtain ⟨rfl, rfl, rfl⟩ := trodAll_nil r2
  obtain rfl : args = #[v0, v1, v2] := by cases args; simp_all
  obtain ⟨rfl, rfl⟩ := trodVars_none hV
  obtain ⟨sg0, sl0, x0, rt0, rfl, hx0⟩ := Lg.open_conf (hval 0 24 v0 rfl rfl) h0
  obtain ⟨a1, rfl, rfl, rfl, w1⟩ := open_int Tryz.underlying5 (hval 1 5 v1 rfl rfl) h1
  obtain ⟨lim2, A2, N2, c2, kp2, torn2, pos2, rfl, hlim2, hN2, hK2, hKf2⟩ := Lg.open_crash (hval 2 83 v2 rfl rfl) h2
  clear hA0 hval0
  try simp only [List.append_nil] at hW'
  try simp only [List.nil_append] at hW'
  have hlt := fun x hx => hW'.lt x hx
  refine (walk sg0 sl0 x0 rt0 a1 lim2 A2 N2 c2 kp2 torn2 pos2 W hx0 w1 hlim2 hN2 hK2 hKf2).mono fun e W' ⟨he, hg⟩ => ?_
  subst he
  refine ⟨_, rfl, post_mem hW' (fun _ _ _ => (trodAll_cons_mk (shut_bool Tryz.underlying4 _) trodAll_mk0)) (fun sp hsp => ?_) (fun _ => rfl) hg (ok_one (by kernel_rfl) rfl (okWide_bool_mk Tryz.underlying4 _))⟩
  have hall := (trodAll_cons_mk (arg_same (sp := sp) laid (by kernel_rfl) (of_decide_eq_true (by kernel_rfl)) h0 hg (by intro x hx; simp_all) hlt hsp) (trodAll_cons_mk (arg_same (sp := sp) laid (by kernel_rfl) (of_decide_eq_true (by kernel_rfl)) h1 hg (by intro x hx; simp_all) hlt hsp) (trodAll_cons_mk (arg_same (sp := sp) laid (by kernel_rfl) (of_decide_eq_true (by kernel_rfl)) h2 hg (by intro x hx; simp_all) hlt hsp) trodAll_mk0)))
  try simp only [List.append_nil] at hall
  try simp only [List.nil_append] at hall
  exact hall
theorem over : Rows.logLastsRow.holds Tryz.pinned (OpenSpec.ofChange Rows.logLastsSpec) :=
  OpenClaim.holds_of_wide 6 Tryz.f6 rfl rfl rfl rfl rfl rfl rfl ⟨rfl, rfl, rfl, rfl, rfl⟩ rfl rfl rfl rfl rfl (by kernel_rfl) Tryz.func6 (by kernel_rfl)
    (of_decide_eq_true (by kernel_rfl)) (by unfold Func.isWrapper; first | (rw [if_pos (by decide +kernel)]; kernel_rfl) | (rw [if_neg (by decide +kernel)]; exact ⟨rfl, rfl⟩))
    (fun os started H enc _ => lifted os started H enc)
theorem proved : Rows.LogLastsSaid := over
#print axioms proved
end Go.Proofs.YtdpmjlbkojhooaaGreat.logLasts
