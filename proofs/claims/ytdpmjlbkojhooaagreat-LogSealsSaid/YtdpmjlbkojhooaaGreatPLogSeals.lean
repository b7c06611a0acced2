/- For every conf and every numbers of records the statement LogSeals about seglog returns true, and changes nothing. Conditions: none. -/
import Derived.Test.YtdpmjlbkojhooaaGreatPLiD
import Derived.Deep.DeepCutAuto
import Derived.Deep.LoopGhost
import Derived.Deep.RegionWith
import Derived.StillTailTactics
import Derived.WalkSmall
import Derived.IntWalk
import Derived.ProofKit
import Derived.OpenShut
import Derived.ShutString
import Derived.SizedLaws
namespace Go.Proofs.YtdpmjlbkojhooaaGreat.logSeals
open Go.ChangeShapes Go.WideShapes Go.ChangeAt Go.RowKit Go.Lib Go.MapKept
open Go.ChangeMaps (open_string shut_string)
set_option linter.unusedVariables false
theorem own : ownKnob Tryz.prog.godebug = none := by kernel_rfl
theorem laid : laidOutB Tryz.prog = true := by kernel_rfl
set_option maxRecDepth 100000
open Lg
open Tb (Tab TIn Sl okP csT lastN nth Fresh)
open Dk (St Only Grew)
set_option maxHeartbeats 32000000 in
theorem walk (sg sl : Int) (x : Nat) (rt : Int) (LA : Option Addr) (N cp : Nat) (f : Nat → Int) (w : World) (hx : x < 18446744073709551616) (hN : N ≤ maxLen) (hlc0 : CellsIn w LA N (fun j => .int .u8 (f j))) (hlw : ∀ j, j < N → (Lit.int .u8 (f j)).wf = true) :
    Calls Tryz.prog 7 #[.agg #[.int .i64 sg, .int .i64 sl, .float .f64 x, .int .i64 rt], .slice LA N cp] w fun e w' => e = .returned (.bool true) ∧ Below w.heap.size w w' := by
  have HLC := Lib.hid hlc0
  have HLW := Lib.hid hlw
  clear hlc0 hlw
  have N4 : Tb.Blk (w.alloc (.cells (csF sg sl x rt) 24)) w.heap.size 24 (csF sg sl x rt) := Tb.Blk.new w _ _
  have BBA := Lib.hid (Tb.below1 w (.cells (csF sg sl x rt) 24))
  go_enter Tryz.func7, Tryz.ntmps7
  go_upto_region 1 with fail
  change Code.wp _ _ _ _ (w.alloc (.cells (csF sg sl x rt) 24))
  obtain ⟨b, Eb⟩ : ∃ z, w.heap.size = z := ⟨_, rfl⟩
  have HWB : Hid (w.heap.size = b) := Lib.hid Eb
  rw [Eb] at N4 ⊢
  clear Eb
  generalize w.alloc (.cells (csF sg sl x rt) 24) = wA at *
  have HSM := Lib.hid (small_any sg sl rt x wA hx)
  obtain ⟨G, EG⟩ : ∃ z, smG sg sl x rt = z := ⟨_, rfl⟩
  obtain ⟨Z, EZ⟩ : ∃ z, smL sg sl x rt = z := ⟨_, rfl⟩
  have HSB : Hid (Ck.MayC G Z x rt → G ≤ 6 ∧ Z ≤ 5) := Lib.hid (fun h => by
    by_cases hm : Ck.MayC sg sl x rt
    · have := small_may hm
      rw [EG, EZ] at this
      exact this.2
    · exact absurd (by rw [EG, EZ]; exact h) (small_not hm))
  rw [EG, EZ] at HSM
  clear EG EZ
  go_wp2_with (with_reducible refine load_cf rfl (.tmp 2) rfl b rfl N4 ?_)
  refine HSM.out.mono ?_
  rintro e' w1 ⟨rfl, hb1⟩
  replace N4 := N4.later hb1
  replace BBA := Lib.hid (BBA.out.trans (hb1.mono BBA.out.size))
  clear HSM hb1
  go_upto_region 2 with (with_reducible refine store_cf rfl (.tmp 2) (.tmp 19) rfl b rfl rfl N4 ?_)
  replace N4 := N4.row (csF G Z x rt)
  replace BBA := Lib.hid (Tb.below_row BBA.out (show w.heap.size ≤ b by have := HWB.out; omega) (csF G Z x rt))
  generalize w1.setRow b (csF G Z x rt) = wB at *
  by_cases hm : Ck.MayC G Z x rt
  case neg =>
    have HC := Lib.hid (fun w => Ck.R4.may_no G Z rt x w hx hm)
    go_wp2_with (with_reducible refine load_cf rfl (.tmp 2) rfl b rfl N4 ?_)
    refine (HC.out _).mono ?_
    rintro e' w2 ⟨rfl, hb⟩
    have BB2 := Lib.hid (BBA.out.trans (hb.mono BBA.out.size))
    clear hb HC N4
    go_wp2_with fail
    refine (fixed_any _).mono ?_
    rintro e' w3 ⟨rfl, hb⟩
    have BB3 := Lib.hid (BB2.out.trans (hb.mono BB2.out.size))
    clear hb
    go_wp2_with fail
    go_ret
    exact ⟨rfl, BB3.out⟩
  have HB6 := HSB.out hm
  have HN0 := Lib.hid (new_yes (x := x) (rt := rt) hm HB6.1 HB6.2).2
  have HMD := Lib.hid (fun w (h : Below wB.heap.size wB w) => made_new (w0 := wB) h hx hm HB6.1 HB6.2)
  have HC := Lib.hid (fun w => Ck.R4.may_yes G Z rt x w hm)
  have HSC := Lib.hid (fun w => Ck.R4.sectors_any G Z rt x w hx)
  have HSE := Lib.hid (sc_may hm)
  clear hm HB6 HSB
  generalize Ck.scC G Z x rt = sc at *
  generalize nD G Z x rt = s0 at *
  generalize Tb.newT G Z 1 = t0 at *
  go_wp2_with (with_reducible refine load_cf rfl (.tmp 2) rfl b rfl N4 ?_)
  refine (HC.out _).mono ?_
  rintro e' w2 ⟨rfl, hb⟩
  have KEY2 : Below wB.heap.size wB w2.drew := hb.drew
  have f0 : w2.cell? ⟨b, 0, none⟩ = some (.int .i64 G) := (N4.later hb).cell 0
  have f1 : w2.cell? ⟨b, 1, none⟩ = some (.int .i64 Z) := (N4.later hb).cell 1
  have f2 : w2.cell? ⟨b, 2, none⟩ = some (.float .f64 x) := (N4.later hb).cell 2
  have f3 : w2.cell? ⟨b, 3, none⟩ = some (.int .i64 rt) := (N4.later hb).cell 3
  have KEY : Hid (∀ W', Below w2.drew.heap.size w2.drew W' → Below wB.heap.size wB W' ∧ W'.cell? ⟨b, 0, none⟩ = some (.int .i64 G) ∧ W'.cell? ⟨b, 1, none⟩ = some (.int .i64 Z) ∧ W'.cell? ⟨b, 2, none⟩ = some (.float .f64 x) ∧ W'.cell? ⟨b, 3, none⟩ = some (.int .i64 rt)) := Lib.hid (fun W' hb' => by
    have hB := KEY2.trans (hb'.mono KEY2.size)
    have M := N4.later hB
    exact ⟨hB, M.cell 0, M.cell 1, M.cell 2, M.cell 3⟩)
  clear hb HC
  have hbD : Below wB.heap.size wB w2.drew := KEY2
  go_upto_region 4 with fail
  go_cut [5, 6, 7] from 24 to 31 (fun s5 s6 s7 wx => ∃ g d, s5 = .pointer (some ⟨g, 0, none⟩) ∧ s6 = .pointer (some ⟨d, 0, none⟩) ∧ s7 = .int .i64 0 ∧ Dk.Sep wB wx [Dk.diskI d s0, PLog g d t0 1 1 1])
  case first =>
    go_region_with (first
      | (go_at_call 21; refine (HSC.out _).mono ?_; rintro e5 w5 ⟨rfl, hb5⟩; obtain ⟨e51, e52, e53, e54, e55⟩ := KEY.out w5 hb5)
      | (go_at_call 11; refine (HMD.out _ (by assumption)).mono ?_; rintro e6 w6 ⟨g, d, rfl, h6⟩))
    all_goals
      go_wp2_with fail
      go_meet
      exact ⟨_, _, rfl, rfl, rfl, h6⟩
  case rest =>
  obtain ⟨g, d, rfl, rfl, rfl, h3⟩ := hcut
  clear KEY KEY2 f0 f1 f2 f3 HMD HSC hbD
  have hZ5 := HN0.out.z
  have hG6 := HN0.out.g
  have HRN := Lib.hid (alls_new HN0.out)
  have h4 := Lib.hid h3
  clear h3 HN0
  go_wp2_with fail
  go_loopg [8] 6 (fun gk s8 wr => ∃ (a : Nat) (s1 : St) (t1 : Tab) (l1 : Int), (a : Int) ≤ G ∧ gk = 6 - a ∧ s8 = .int .i64 (a : Nat) ∧ Hid (((a : Int) < G ∧ AllS G Z a 0 t1 s1 l1) ∨ ((a : Int) = G ∧ ∃ c y : Nat, (c : Int) + 1 = G ∧ AllS G Z c y t1 s1 l1)) ∧ Hid (Dk.Sep wB wr [Dk.diskI d s1, PLog g d t1 l1 1 1]))
  case atStart => exact ⟨0, _, _, _, by omega, rfl, rfl, Lib.hid (.inl ⟨by omega, HRN.out⟩), h4⟩
  case round =>
    obtain ⟨a, s1, t1, l1, hi, hgk, rfl, HR0, HI⟩ := hrel
    have HG := Lib.hid hgk
    clear hgk h4 HRN
    have c0 : wr.cell? ⟨b, 0, none⟩ = some (.int .i64 G) := (N4.later HI.out.below).cell 0
    by_cases hlt : (a : Int) < G
    · have HR : Hid (AllS G Z a 0 t1 s1 l1) := Lib.hid (by rcases HR0.out with h | h; exact h.2; omega)
      clear HR0
      go_upto_if 47 with fail
      clear c0
      go_cut [9] from 44 to 56 (fun s9 wx => ∃ k : Nat, 1 ≤ (k : Int) ∧ (k : Int) ≤ Z ∧ s9 = .int .i64 (k : Nat) ∧ Dk.Sep wB wx [Dk.diskI d s1, PLog g d t1 l1 1 1])
      case first =>
        by_cases ha : (a : Int) < (N : Int)
        · go_upto_region 12 with fail
          have I : Dk.Sep wB { wr with drawn := wr.drawn + 1 } [Dk.diskI d s1, PLog g d t1 l1 1 1] := HI.out.later (Below.refl _ _).drew
          have hne : Nonempty (In (fun W => Dk.Sep wB W [Dk.diskI d s1, PLog g d t1 l1 1 1])) := ⟨⟨_, I⟩⟩
          have g1 : ∀ jj : In (fun W => Dk.Sep wB W [Dk.diskI d s1, PLog g d t1 l1 1 1]), jj.W.cell? ⟨b, 1, none⟩ = some (.int .i64 Z) := fun jj => (N4.later jj.h.below).cell 1
          obtain ⟨lb, lo, rfl, hlb, hlc⟩ := HLC.out (by omega)
          obtain ⟨v, Ev⟩ : ∃ v, f a = v := ⟨_, rfl⟩
          have g2 : ∀ jj : In (fun W => Dk.Sep wB W [Dk.diskI d s1, PLog g d t1 l1 1 1]), jj.W.cell? ⟨lb, lo + a, none⟩ = some (.int .u8 v) := fun jj => by
            have := (BBA.out.trans (jj.h.below.mono BBA.out.size)).cell (p := ⟨lb, lo + a, none⟩) hlb
            rw [this, hlc a (by omega)]
            show some (Value.int .u8 (f a)) = _
            rw [Ev]
          have hv8 : 0 ≤ v ∧ v ≤ 255 := by
            have := HLW.out a (by omega)
            rw [Ev] at this
            simp [Lit.wf] at this
            exact ⟨this.1, this.2⟩
          have hlti : (a : Int) < (N : Int) := ha
          have qZ : (Z == 0) = false := by simp; omega
          have qm : 0 ≤ v % Z ∧ v % Z < Z := ⟨Int.emod_nonneg _ (by omega), Int.emod_lt_of_pos _ (by omega)⟩
          have qt : v.tmod Z = v % Z := Int.tmod_eq_emod_of_nonneg hv8.1
          clear hlc hlb
          refine region_class (fun W => Dk.Sep wB W [Dk.diskI d s1, PLog g d t1 l1 1 1]) (by kernel_rfl) (by kernel_rfl) I ?_
          repeat (go_big_quiet_step (fail))
          refine wpQuiet_nil ?_
          rintro _ ⟨jj, rfl⟩
          have h8 := jj.h
          clear g1 g2 hne I
          go_wp2_with fail
          go_meet
          exact ⟨(1 + v % Z).toNat, by omega, by omega, by go_num, h8⟩
        · have qa : decide ((a : Int) < (N : Int)) = false := decide_eq_false ha
          go_wp2_with fail
          go_meet
          exact ⟨1, by omega, by omega, rfl, HI.out⟩
      case rest =>
      obtain ⟨k, hk1, hkZ, rfl, h5⟩ := hcut
      have H5 := Lib.hid h5
      clear h5 HI
      go_wp2_with fail
      go_loopg [10] 5 (fun gk2 s10 wr2 => ∃ (i : Nat) (s2 : St) (t2 : Tab) (l2 : Int), (i : Int) ≤ k ∧ gk2 = 5 - i ∧ s10 = .int .i64 (i : Nat) ∧ Hid (AllS G Z a i t2 s2 l2) ∧ Hid (Dk.Sep wB wr2 [Dk.diskI d s2, PLog g d t2 l2 1 1]))
      case atStart => exact ⟨0, _, _, _, by omega, rfl, rfl, HR, H5⟩
      case round =>
        obtain ⟨i, s2, t2, l2, hi2, hgk2, rfl, HR2, HI2⟩ := hrel
        have HG2 := Lib.hid hgk2
        clear hgk2 H5 HR
        have HLS : Hid (l2 ≠ 0) := Lib.hid (by have := HR2.out.p.ls1; omega)
        have HC1 : Hid (12 * a + 2 * i ≤ 1000) := Lib.hid (by omega)
        by_cases hlt2 : (i : Int) < (k : Int)
        · obtain ⟨s3, t3, l3, E, R3⟩ := HR2.out.next (D := 9) (I := bC 97) (X := bC 118) (by omega) ⟨by decide, by decide⟩ (live_ok HLS.out (by decide))
          have HE := Lib.hid E
          have HR3 := Lib.hid R3
          clear E R3
          go_wp2_with fail
          refine (live_is ⟨#[97]⟩ ((a : Int) * 100 + i) wr).mono ?_
          rintro e' w5 ⟨rfl, hb⟩
          have HA := Lib.hid (app_live (HI2.out.later hb) HR2.out.p HC1.out HE.out (show (0 : Int) ≠ 9 by decide) (by omega))
          clear hb HI2
          go_wp2_with fail
          refine HA.out.mono ?_
          rintro e' w6 ⟨rfl, h6⟩
          have HI3 : Hid (Dk.Sep wB (w6.alloc (.cells #[.int .i64 (a : Nat), .int .i64 (i : Nat)] 67)) [Dk.diskI d s3, PLog g d t3 l3 1 1]) := Lib.hid (h6.alloc _)
          clear HA h6 HR2 HLS HE
          go_wp2_with fail
          go_roundg (5 - (i + 1))
          case measure => have := HG2.out; omega
          case rel => exact ⟨i + 1, s3, t3, l3, by omega, rfl, by go_num, HR3, HI3⟩
        · by_cases hag : (a : Int) + 1 < G
          · obtain ⟨s3, t3, l3, E, R3⟩ := HR2.out.seal hag
            have HR3 := Lib.hid R3
            have HA := Lib.hid (seal_fix HI2.out HR2.out.p HC1.out E (show (0 : Int) ≠ 9 by decide))
            clear E R3 HI2 HR2
            go_wp2_with fail
            refine HA.out.mono ?_
            rintro e' w6 ⟨rfl, h6⟩
            have HI3 := Lib.hid h6
            have c0 : w6.cell? ⟨b, 0, none⟩ = some (.int .i64 G) := (N4.later h6.below).cell 0
            have q1 : decide ((a : Int) + 1 < G) = true := decide_eq_true hag
            clear HA h6
            go_wp2_with fail
            clear c0
            go_roundg (6 - (a + 1))
            case measure => have := HG.out; omega
            case rel => exact ⟨a + 1, s3, t3, l3, by omega, rfl, by go_num, Lib.hid (.inl ⟨by omega, HR3.out⟩), HI3⟩
          · have hag2 : (a : Int) + 1 = G := by omega
            have HD := Lib.hid (HR2.out.done hag2)
            have HA := Lib.hid (seal_fix HI2.out HR2.out.p HC1.out HD.out.2 (show (10 : Int) ≠ 9 by decide))
            clear HI2 HD
            go_wp2_with fail
            refine HA.out.mono ?_
            rintro e' w6 ⟨rfl, h6⟩
            have HI3 := Lib.hid h6
            have c0 : w6.cell? ⟨b, 0, none⟩ = some (.int .i64 G) := (N4.later h6.below).cell 0
            have q1 : decide ((a : Int) + 1 < G) = false := decide_eq_false (by omega)
            have q2 : ((a : Int) + 1 == G) = true := by simp [hag2]
            clear HA h6
            go_wp2_with fail
            clear c0
            go_roundg (6 - (a + 1))
            case measure => have := HG.out; omega
            case rel => exact ⟨a + 1, s2, t2, l2, by omega, rfl, by go_num, Lib.hid (.inr ⟨by omega, a, i, hag2, HR2.out⟩), HI3⟩
    · have HR : Hid (∃ c y : Nat, (c : Int) + 1 = G ∧ AllS G Z c y t1 s1 l1) := Lib.hid (by rcases HR0.out with h | h; exact absurd h.1 hlt; exact h.2)
      clear HR0
      obtain ⟨c, y, hc, hAC⟩ := HR.out
      have HAC := Lib.hid hAC
      clear HR hAC
      have c0 : wr.cell? ⟨b, 0, none⟩ = some (.int .i64 G) := (N4.later HI.out.below).cell 0
      go_wp2_with fail
      clear c0
      go_loopg [14] 6 (fun gk2 s14 wr2 => ∃ p : Nat, (p : Int) ≤ G ∧ gk2 = 6 - p ∧ s14 = .int .i64 (p : Nat) ∧ Hid (Dk.Sep wB wr2 [Dk.diskI d s1, PLog g d t1 l1 1 1]))
      case atStart => exact ⟨0, by omega, rfl, rfl, HI⟩
      case round =>
        obtain ⟨p, hp, hgk2, rfl, HI2⟩ := hrel
        have HG2 := Lib.hid hgk2
        clear hgk2 HI
        have c0 : wr.cell? ⟨b, 0, none⟩ = some (.int .i64 G) := (N4.later HI2.out.below).cell 0
        by_cases hlt2 : (p : Int) < G
        · go_wp2_with fail
          clear c0
          have hmem : Hid ((p : Int) ∈ t1.o) := Lib.hid (by rw [HAC.out.o, Tb.mem_upto]; omega)
          have hln : 0 ≤ Tb.lenT t1 p ∧ Tb.lenT t1 p ≤ 5 := by
            have := len_bd HAC.out.p.ok hmem.out
            have h2 := HAC.out.st
            omega
          go_loopg [15] 5 (fun gk3 s15 wr3 => ∃ q : Nat, (q : Int) ≤ Tb.lenT t1 p ∧ gk3 = 5 - q ∧ s15 = .int .i64 (q : Nat) ∧ Hid (Dk.Sep wB wr3 [Dk.diskI d s1, PLog g d t1 l1 1 1]))
          case atStart => exact ⟨0, by omega, rfl, rfl, HI2⟩
          case round =>
            obtain ⟨q, hq, hgk3, rfl, HI3⟩ := hrel
            have HG3 := Lib.hid hgk3
            clear hgk3 HI2
            go_wp2_with fail
            refine (tab_fix HI3.out).mono ?_
            rintro e' w5 ⟨A, m9, p9, B, k9, q9, C, n9, r9, rfl, ht, h5⟩
            have HL := Lib.hid (len_fix (p := p9) (q := q9) (r := r9) ht HAC.out.p.ok (p : Int))
            obtain ⟨z, Ez⟩ : ∃ z, Tb.lenT t1 p = z := ⟨_, rfl⟩
            rw [Ez] at HL
            clear ht HI3
            go_wp2_with fail
            refine HL.out.mono ?_
            rintro e' w6 ⟨rfl, hb⟩
            have h6 := h5.later hb
            clear h5 hb HL
            by_cases hqz : (q : Int) < z
            · obtain ⟨r, hS, hv⟩ := HAC.out.all p q hmem.out (by omega) (by rw [Ez]; exact hqz)
              have HRD := Lib.hid (read_fix h6 p q HAC.out.p (show 12 * c + 2 * y ≤ 1000 by have := HAC.out.xz; have := HAC.out.ag; omega) (read_stands hS))
              obtain ⟨rl, re, rk, rv, rd, ri, ra⟩ := r
              simp only at hv HRD
              subst hv
              have H6 := Lib.hid h6
              generalize (⟨ri.toArray⟩ : ByteArray) = RI at *
              generalize (⟨ra.toArray⟩ : ByteArray) = RA at *
              clear h6 hS
              go_wp2_with fail
              refine HRD.out.mono ?_
              rintro e' w7 ⟨rfl, hb⟩
              have HI4 : Hid (Dk.Sep wB (w7.alloc (.cells #[.int .u64 rl, .int .u32 re, .int .i64 rk, .int .u64 ((p : Int) * 100 + q), .int .u64 rd, .string RI, .string RA] 46)) [Dk.diskI d s1, PLog g d t1 l1 1 1]) := Lib.hid ((H6.out.later hb).alloc _)
              clear hb HRD H6
              go_wp2_with fail
              go_roundg (5 - (q + 1))
              case measure => have := HG3.out; omega
              case rel => exact ⟨q + 1, by omega, rfl, by go_num, HI4⟩
            · have qz : decide ((q : Int) < z) = false := decide_eq_false hqz
              have HI4 := Lib.hid h6
              clear h6
              go_wp2_with fail
              go_roundg (6 - (p + 1))
              case measure => have := HG2.out; omega
              case rel => exact ⟨p + 1, by omega, rfl, by go_num, HI4⟩
        · have HF := Lib.hid (HAC.out.done hc).1
          go_wp2_with fail
          clear c0
          refine (tab_fix HI2.out).mono ?_
          rintro e' w5 ⟨A, m9, p9, B, k9, q9, C, n9, r9, rfl, ht, h5⟩
          have HT := Lib.hid ht
          have H5 := Lib.hid h5
          clear ht h5 HI2
          go_wp2_with fail
          refine (Tb.ref_any t1.sg t1.st A m9 p9 B k9 q9 C n9 r9 w5).mono ?_
          rintro e' w6 ⟨rfl, hb⟩
          have HL := Lib.hid (rfree_fix (p := p9) (q := q9) (r := r9) (HT.out.later hb) HAC.out.p.ok)
          have H6 := Lib.hid (H5.out.later hb)
          rw [HF.out] at HL
          clear hb H5 HT
          go_wp2_with fail
          refine HL.out.mono ?_
          rintro e' w7 ⟨A2, m2, p2, rfl, hs, hb⟩
          have hm0 : m2 = 0 := hs.len
          subst hm0
          have H7 := Lib.hid (H6.out.later hb)
          clear HL hs hb H6
          go_wp2_with fail
          refine (fixed_any _).mono ?_
          rintro e' w8 ⟨rfl, hb⟩
          have BB7 := Lib.hid (BBA.out.trans ((H7.out.later hb).below.mono BBA.out.size))
          clear hb
          go_wp2_with fail
          go_ret
          exact ⟨rfl, BB7.out⟩
set_option maxRecDepth 100000 in
theorem lifted (os : Os) (started : os.Started) (H : Type) (enc : TypeId × Value → H) :
    ReturnsInHanded {} Tryz.checked os 7 .any (Rows.logSealsSpec.pre6 enc Tryz.prog Tryz.f7 Rows.logSealsRow.domain false) (Rows.logSealsSpec.post enc Tryz.prog Tryz.f7 false true false false) := by
  refine returnsInHanded_of_change (C := Tryz.checked) own started (by kernel_rfl) Tryz.func7
    (ChangeSpec.witness6 (enc := enc) (C := Tryz.checked) false ⟨#[], #[.agg #[.int .i64 0, .int .i64 0, .float .f64 0, .int .i64 0], .slice none 0 0], []⟩ 8 (by kernel_rfl) (by kernel_rfl) (by kernel_rfl) (by kernel_rfl)) ?_
  intro W base args ds gs before hval0 hW hcnd _
  have hval : ∀ (j : Nat) t v, Tryz.f7.params[j]? = some t → args[j]? = some v → Value.okWide Tryz.prog W .any base t v := hval0
  have hW' := hW
  obtain ⟨p, q, hA0, hV, rfl, hfz, hnd⟩ := hW
  have hA : DataW.TrodAll enc Tryz.prog W 0 (fun _ => true) true Tryz.f7.params.toList args.toList ds p := hA0
  rw [Tryz.params7] at hA hval
  obtain ⟨v0, vs0, d0, ds0, p0, q0, hargs, rfl, rfl, h0, r0⟩ := trodAll_cons hA
  obtain ⟨v1, vs1, d1, ds1, p1, q1, rfl, rfl, rfl, h1, r1⟩ := trodAll_cons r0
  obtain ⟨rfl, rfl, rfl⟩ := trodAll_nil r1
  obtain rfl : args = #[v0, v1] := by cases args; simp_all
  obtain ⟨rfl, rfl⟩ := trodVars_none hV
  obtain ⟨sg0, sl0, x0, rt0, rfl, hx0⟩ := Lg.open_conf (hval 0 24 v0 rfl rfl) h0
  obtain ⟨A1, n1, c1, f1, rfl, hn1, hc1, hw1⟩ := open_nums Tryz.underlying97 Tryz.underlying5 (by kernel_rfl) (hval 1 97 v1 rfl rfl) h1
  clear hA0 hval0
  try simp only [List.append_nil] at hW'
  try simp only [List.nil_append] at hW'
  have hlt := fun x hx => hW'.lt x hx
  refine (walk sg0 sl0 x0 rt0 A1 n1 c1 f1 W hx0 hn1 hc1 hw1).mono fun e W' ⟨he, hg⟩ => ?_
  subst he
  refine ⟨_, rfl, post_mem hW' (fun _ _ _ => (trodAll_cons_mk (shut_bool Tryz.underlying4 _) trodAll_mk0)) (fun sp hsp => ?_) (fun _ => rfl) hg (ok_one (by kernel_rfl) rfl (okWide_bool_mk Tryz.underlying4 _))⟩
  have hall := (trodAll_cons_mk (arg_same (sp := sp) laid (by kernel_rfl) (of_decide_eq_true (by kernel_rfl)) h0 hg (by intro x hx; simp_all) hlt hsp) (trodAll_cons_mk (arg_same (sp := sp) laid (by kernel_rfl) (of_decide_eq_true (by kernel_rfl)) h1 hg (by intro x hx; simp_all) hlt hsp) trodAll_mk0))
  try simp only [List.append_nil] at hall
  try simp only [List.nil_append] at hall
  exact hall
theorem over : Rows.logSealsRow.holds Tryz.pinned (OpenSpec.ofChange Rows.logSealsSpec) :=
  OpenClaim.holds_of_wide 7 Tryz.f7 rfl rfl rfl rfl rfl rfl rfl ⟨rfl, rfl, rfl, rfl, rfl⟩ rfl rfl rfl rfl rfl (by kernel_rfl) Tryz.func7 (by kernel_rfl)
    (of_decide_eq_true (by kernel_rfl)) (by unfold Func.isWrapper; first | (rw [if_pos (by decide +kernel)]; kernel_rfl) | (rw [if_neg (by decide +kernel)]; exact ⟨rfl, rfl⟩))
    (fun os started H enc _ => lifted os started H enc)
theorem proved : Rows.LogSealsSaid := over
#print axioms proved
end Go.Proofs.YtdpmjlbkojhooaaGreat.logSeals
