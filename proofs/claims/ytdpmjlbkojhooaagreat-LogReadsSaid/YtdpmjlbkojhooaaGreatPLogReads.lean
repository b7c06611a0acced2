/- For every conf and every records the statement LogReads about seglog returns true, and changes nothing. Conditions: none. -/
import Derived.Test.YtdpmjlbkojhooaaGreatPLiF
import Derived.Deep.DeepCutAuto
import Derived.Deep.LoopGhost
import Derived.Deep.RegionWith
import Derived.StillTailTactics
import Derived.WalkSmall
import Derived.IntWalk
import Derived.ProofKit
import Derived.OpenShut
import Derived.ShutString
import Derived.SizedLaws
namespace Go.Proofs.YtdpmjlbkojhooaaGreat.logReads
open Go.ChangeShapes Go.WideShapes Go.ChangeAt Go.RowKit Go.Lib Go.MapKept
open Go.ChangeMaps (open_string shut_string)
set_option linter.unusedVariables false
theorem own : ownKnob Tryz.prog.godebug = none := by kernel_rfl
theorem laid : laidOutB Tryz.prog = true := by kernel_rfl
set_option maxRecDepth 100000
open Lg
open Tb (Tab TIn Sl okP csT lastN nth Fresh)
open Dk (St Only Grew)
open Go.Deep
set_option maxHeartbeats 64000000 in
theorem walk (sg sl : Int) (x : Nat) (rt : Int) (L1 : Option Addr) (N1 c1 : Nat) (f1 : Nat → RI) (w : World) (hx : x < 18446744073709551616) (hN1 : N1 ≤ maxLen) (hL1 : RecsIn w L1 N1 f1) :
    Calls Tryz.prog 4 #[.agg #[.int .i64 sg, .int .i64 sl, .float .f64 x, .int .i64 rt], .slice L1 N1 c1] w fun e w' => e = .returned (.bool true) ∧ Below w.heap.size w w' := by
  have HL1 := Lib.hid hL1
  clear hL1
  have N4 : Tb.Blk (w.alloc (.cells (csF sg sl x rt) 24)) w.heap.size 24 (csF sg sl x rt) := Tb.Blk.new w _ _
  have BBA := Lib.hid (Tb.below1 w (.cells (csF sg sl x rt) 24))
  go_enter Tryz.func4, Tryz.ntmps4
  go_upto_region 1 with fail
  change Code.wp _ _ _ _ (w.alloc (.cells (csF sg sl x rt) 24))
  obtain ⟨b, Eb⟩ : ∃ z, w.heap.size = z := ⟨_, rfl⟩
  have HWB : Hid (w.heap.size = b) := Lib.hid Eb
  rw [Eb] at N4 ⊢
  clear Eb
  generalize w.alloc (.cells (csF sg sl x rt) 24) = wA at *
  have HSM := Lib.hid (small_any sg sl rt x wA hx)
  obtain ⟨G, EG⟩ : ∃ z, smG sg sl x rt = z := ⟨_, rfl⟩
  obtain ⟨Z, EZ⟩ : ∃ z, smL sg sl x rt = z := ⟨_, rfl⟩
  have HSB : Hid (Ck.MayC G Z x rt → G ≤ 6 ∧ Z ≤ 5) := Lib.hid (fun h => by
    by_cases hm : Ck.MayC sg sl x rt
    · have := small_may hm
      rw [EG, EZ] at this
      exact this.2
    · exact absurd (by rw [EG, EZ]; exact h) (small_not hm))
  rw [EG, EZ] at HSM
  clear EG EZ
  go_wp2_with (with_reducible refine load_cf rfl (.tmp 2) rfl b rfl N4 ?_)
  refine HSM.out.mono ?_
  rintro e' w1 ⟨rfl, hb1⟩
  replace N4 := N4.later hb1
  replace BBA := Lib.hid (BBA.out.trans (hb1.mono BBA.out.size))
  clear HSM hb1
  go_upto_region 2 with (with_reducible refine store_cf rfl (.tmp 2) (.tmp 22) rfl b rfl rfl N4 ?_)
  replace N4 := N4.row (csF G Z x rt)
  replace BBA := Lib.hid (Tb.below_row BBA.out (show w.heap.size ≤ b by have := HWB.out; omega) (csF G Z x rt))
  generalize w1.setRow b (csF G Z x rt) = wB at *
  by_cases hm : Ck.MayC G Z x rt
  case neg =>
    have HC := Lib.hid (fun w => Ck.R4.may_no G Z rt x w hx hm)
    go_wp2_with (with_reducible refine load_cf rfl (.tmp 2) rfl b rfl N4 ?_)
    refine (HC.out _).mono ?_
    rintro e' w2 ⟨rfl, hb⟩
    have BB2 := Lib.hid (BBA.out.trans (hb.mono BBA.out.size))
    clear hb HC N4
    go_wp2_with fail
    refine (fixed_any _).mono ?_
    rintro e' w3 ⟨rfl, hb⟩
    have BB3 := Lib.hid (BB2.out.trans (hb.mono BB2.out.size))
    clear hb
    go_wp2_with fail
    go_ret
    exact ⟨rfl, BB3.out⟩
  have HB6 := HSB.out hm
  have HN0 := Lib.hid (new_yes (x := x) (rt := rt) hm HB6.1 HB6.2).2
  have HMD := Lib.hid (fun w (h : Below wB.heap.size wB w) => made_new (w0 := wB) h hx hm HB6.1 HB6.2)
  have HC := Lib.hid (fun w => Ck.R4.may_yes G Z rt x w hm)
  have HSC := Lib.hid (fun w => Ck.R4.sectors_any G Z rt x w hx)
  have HSE := Lib.hid (sc_may hm)
  clear hm HB6 HSB
  generalize Ck.scC G Z x rt = sc at *
  generalize nD G Z x rt = s0 at *
  generalize Tb.newT G Z 1 = t0 at *
  go_wp2_with (with_reducible refine load_cf rfl (.tmp 2) rfl b rfl N4 ?_)
  refine (HC.out _).mono ?_
  rintro e' w2 ⟨rfl, hb⟩
  have KEY2 : Below wB.heap.size wB w2.drew := hb.drew
  have f0 : w2.cell? ⟨b, 0, none⟩ = some (.int .i64 G) := (N4.later hb).cell 0
  have f1 : w2.cell? ⟨b, 1, none⟩ = some (.int .i64 Z) := (N4.later hb).cell 1
  have f2 : w2.cell? ⟨b, 2, none⟩ = some (.float .f64 x) := (N4.later hb).cell 2
  have f3 : w2.cell? ⟨b, 3, none⟩ = some (.int .i64 rt) := (N4.later hb).cell 3
  have KEY : Hid (∀ W', Below w2.drew.heap.size w2.drew W' → Below wB.heap.size wB W' ∧ W'.cell? ⟨b, 0, none⟩ = some (.int .i64 G) ∧ W'.cell? ⟨b, 1, none⟩ = some (.int .i64 Z) ∧ W'.cell? ⟨b, 2, none⟩ = some (.float .f64 x) ∧ W'.cell? ⟨b, 3, none⟩ = some (.int .i64 rt)) := Lib.hid (fun W' hb' => by
    have hB := KEY2.trans (hb'.mono KEY2.size)
    have M := N4.later hB
    exact ⟨hB, M.cell 0, M.cell 1, M.cell 2, M.cell 3⟩)
  clear hb HC
  have hbD : Below wB.heap.size wB w2.drew := KEY2
  go_upto_region 4 with fail
  go_cut [5, 6, 7] from 27 to 34 (fun s5 s6 s7 wx => ∃ g d, s5 = .pointer (some ⟨g, 0, none⟩) ∧ s6 = .pointer (some ⟨d, 0, none⟩) ∧ s7 = .int .i64 0 ∧ Dk.Sep wB wx [Dk.diskI d s0, PLog g d t0 1 1 1])
  case first =>
    go_region_with (first
      | (go_at_call 21; refine (HSC.out _).mono ?_; rintro e5 w5 ⟨rfl, hb5⟩; obtain ⟨e51, e52, e53, e54, e55⟩ := KEY.out w5 hb5)
      | (go_at_call 11; refine (HMD.out _ (by assumption)).mono ?_; rintro e6 w6 ⟨g, d, rfl, h6⟩))
    all_goals
      go_wp2_with fail
      go_meet
      exact ⟨_, _, rfl, rfl, rfl, h6⟩
  case rest =>
  obtain ⟨g, d, rfl, rfl, rfl, h3⟩ := hcut
  clear KEY KEY2 f0 f1 f2 f3 HMD hbD
  have hZ5 := HN0.out.z
  have hG6 := HN0.out.g
  have HP0 : Hid (LogP (2 * 0) t0 s0 1 1 ∧ s0.set = false ∧ ([] : List RI).length ≤ 0 ∧ Got t0 s0 1 []) := Lib.hid ⟨HN0.out.p, HN0.out.set, Nat.le_refl _, got_new HN0.out⟩
  clear HN0
  have h5 := rows_lit (rows_lit h3 67 2) 46 7
  go_upto_region 8 with fail
  have h4 : Hid (Dk.Sep wB ((wc.alloc (.cells #[] 67)).alloc (.cells #[] 46)) [Dk.diskI d s0, PLog g d t0 1 1 1, rowS 67 2 (.slice (some ⟨wc.heap.size, 0, none⟩) 0 0) 0 [], rowS 46 7 (.slice (some ⟨wc.heap.size + 1, 0, none⟩) 0 0) 0 []]) := Lib.hid (by
    rw [show (wc.alloc (.cells #[] 67)).heap.size = wc.heap.size + 1 by simp] at h5
    exact h5)
  clear h3 h5
  go_wp2_with fail
  go_loopg [11, 8, 9] 60 (fun gk s11 s8 s9 wr => ∃ (i : Nat) (s1 : St) (t1 : Tab) (l1 : Int) (L : List RI) (v1 v2 : Value), i ≤ 60 ∧ gk = 60 - i ∧ s11 = .int .i64 (i : Nat) ∧ s8 = v1 ∧ s9 = v2 ∧ Hid (LogP (2 * i) t1 s1 l1 1 ∧ s1.set = false ∧ L.length ≤ i ∧ Got t1 s1 l1 L) ∧ Hid (Dk.Sep wB wr [Dk.diskI d s1, PLog g d t1 l1 1 1, rowS 67 2 v1 L.length (L.flatMap RI.c2), rowS 46 7 v2 L.length (L.flatMap RI.c7)]))
  case atStart => exact ⟨0, _, _, _, [], _, _, by omega, rfl, rfl, rfl, rfl, HP0, h4⟩
  case round =>
    obtain ⟨i, s1, t1, l1, L, v1, v2, hi, hgk, rfl, rfl, rfl, HP, HI⟩ := hrel
    have HG := Lib.hid hgk
    clear hgk h4 HP0
    obtain ⟨A1, q1, ev1⟩ := rows_slice HI.out (k := 2) rfl
    obtain ⟨A2, q2, ev2⟩ := rows_slice HI.out (k := 3) rfl
    subst ev1 ev2
    by_cases hgo : (i : Int) < (N1 : Int) ∧ (i : Int) < 60
    · have hlti : (i : Int) < (N1 : Int) := hgo.1
      have h40 : (i : Int) < 60 := hgo.2
      have hlt : i < N1 := by omega
      obtain ⟨ab, off, rfl, hab, hops⟩ := HL1.out.2 (by omega)
      have BBR : Below w.heap.size w wr := BBA.out.trans (HI.out.below.mono BBA.out.size)
      have HO := Lib.hid (HL1.out.1 i hlt)
      have d0 : wr.cell? ⟨ab, off + i * 7, none⟩ = some (.int .u64 (f1 i).l0) := (BBR.cell (p := ⟨ab, off + i * 7, none⟩) hab).trans (hops i hlt 0 (by omega))
      have d1 : wr.cell? ⟨ab, off + i * 7 + 1, none⟩ = some (.int .u32 (f1 i).e0) := (BBR.cell (p := ⟨ab, off + i * 7 + 1, none⟩) hab).trans (hops i hlt 1 (by omega))
      have d2 : wr.cell? ⟨ab, off + i * 7 + 2, none⟩ = some (.int .i64 (f1 i).k) := (BBR.cell (p := ⟨ab, off + i * 7 + 2, none⟩) hab).trans (hops i hlt 2 (by omega))
      have d3 : wr.cell? ⟨ab, off + i * 7 + 3, none⟩ = some (.int .u64 (f1 i).v) := (BBR.cell (p := ⟨ab, off + i * 7 + 3, none⟩) hab).trans (hops i hlt 3 (by omega))
      have d4 : wr.cell? ⟨ab, off + i * 7 + 4, none⟩ = some (.int .u64 (f1 i).d) := (BBR.cell (p := ⟨ab, off + i * 7 + 4, none⟩) hab).trans (hops i hlt 4 (by omega))
      have d5 : wr.cell? ⟨ab, off + i * 7 + 5, none⟩ = some (.string (f1 i).i) := (BBR.cell (p := ⟨ab, off + i * 7 + 5, none⟩) hab).trans (hops i hlt 5 (by omega))
      have d6 : wr.cell? ⟨ab, off + i * 7 + 6, none⟩ = some (.string (f1 i).a) := (BBR.cell (p := ⟨ab, off + i * 7 + 6, none⟩) hab).trans (hops i hlt 6 (by omega))
      have HU := Lib.hid (fun W => Rc.lawcut_any (f1 i).l0 (f1 i).e0 (f1 i).k (f1 i).v (f1 i).d (f1 i).i (f1 i).a W HO.out.i HO.out.a)
      have hI8 := Rc.cut80_size (f1 i).i
      have hX8 := Rc.cut80_size (f1 i).a
      have HV := Lib.hid HO.out.v
      have HD := Lib.hid HO.out.d
      generalize Rc.cut80 (f1 i).i = I at *
      generalize Rc.cut80 (f1 i).a = X at *
      have HI8 := Lib.hid hI8
      have HX8 := Lib.hid hX8
      generalize (f1 i).l0 = l0 at *
      generalize (f1 i).e0 = e0 at *
      generalize (f1 i).k = K at *
      generalize (f1 i).v = V at *
      generalize (f1 i).d = D at *
      clear BBR hops hI8 hX8
      go_wp2_with fail
      refine (HU.out _).mono ?_
      rintro e' w5 ⟨rfl, hb⟩
      have h5 := HI.out.later hb
      clear hb HI HU HO d0 d1 d2 d3 d4 d5 d6
      go_upto_region 12 with fail
      have M12 : Tb.Blk (w5.alloc (.cells #[.int .u64 l0, .int .u32 e0, .int .i64 K, .int .u64 V, .int .u64 D, .string I, .string X] 46)) w5.heap.size 46 (cs7 l0 e0 K V D I X) := Tb.Blk.new w5 _ _
      have h6 := loc_new (l := [(w5.heap.size, 46, cs7 l0 e0 K V D I X)]) h5 (Tb.below1 w5 (.cells #[.int .u64 l0, .int .u32 e0, .int .i64 K, .int .u64 V, .int .u64 D, .string I, .string X] 46)) (fun x hx => by rcases List.mem_cons.1 hx with rfl | hx; exact M12; cases hx) (fun x hx => by rcases List.mem_cons.1 hx with rfl | hx; exact Nat.le_refl _; cases hx)
      clear M12 h5
      generalize w5.alloc (.cells #[.int .u64 l0, .int .u32 e0, .int .i64 K, .int .u64 V, .int .u64 D, .string I, .string X] 46) = w6 at *
      generalize w5.heap.size = b12 at *
      replace h6 : Dk.Sep wB w6 [Dk.diskI d s1, PLog g d t1 l1 1 1, rowS 67 2 (.slice A1 L.length q1) L.length (L.flatMap RI.c2), rowS 46 7 (.slice A2 L.length q2) L.length (L.flatMap RI.c7), locI [(b12, 46, cs7 l0 e0 K V D I X)]] := h6
      have H6 := Lib.hid h6
      clear h6
      go_wp2_with fail
      refine (tab_fix H6.out).mono ?_
      rintro e' w7 ⟨A, m9, p9, B, k9, q9, C, n9, r9, rfl, ht, h7⟩
      have HRM := Lib.hid (room_fix (p := p9) (q := q9) (r := r9) ht HP.out.1.ok)
      have H7 := Lib.hid h7
      obtain ⟨rm, Erm⟩ : ∃ z, Tb.roomT t1 = z := ⟨_, rfl⟩
      rw [Erm] at HRM
      have HERM := Lib.hid Erm
      clear ht h7 H6 Erm
      go_wp2_with fail
      refine HRM.out.mono ?_
      rintro e' w8 ⟨rfl, hb⟩
      have h8 := H7.out.later hb
      clear hb HRM H7
      have M12 : Tb.Blk w8 b12 46 (cs7 l0 e0 K V D I X) := loc_at h8 (k := 4) rfl _ (List.mem_cons_self ..)
      have HLS : Hid (l1 ≠ 0) := Lib.hid (by have := HP.out.1.ls1; omega)
      obtain ⟨ok, Eok⟩ : ∃ z, Rc.okR ⟨l1, 1, K, V, D, I.data.toList, X.data.toList⟩ = z := ⟨_, rfl⟩
      have HOK := Lib.hid Eok
      clear Eok
      by_cases hbad : K = 3 ∨ ok = false
      · have HE : Hid (appS t1 s1 l1 1 K V D I X = (s1, t1, l1, 0, 0, 5)) := Lib.hid (app_form (by rw [HOK.out]; exact hbad))
        have HA := Lib.hid (app_fix h8 K V D I X HP.out.1 (show 2 * i ≤ 1000 by omega) HE.out (show (5 : Int) ≠ 9 by decide) l0 e0 HV.out HD.out (show I.size ≤ 1000 by have := HI8.out; omega) (show X.size ≤ 1000 by have := HX8.out; omega))
        have HP2 : Hid (LogP (2 * (i + 1)) t1 s1 l1 1 ∧ s1.set = false ∧ L.length ≤ i + 1 ∧ Got t1 s1 l1 L) := Lib.hid ⟨HP.out.1.le (by omega), HP.out.2.1, by have := HP.out.2.2.1; omega, HP.out.2.2.2⟩
        clear h8 HE hbad HP
        go_wp2_with (with_reducible refine load_pr rfl (.tmp 12) rfl b12 rfl M12 ?_)
        refine HA.out.mono ?_
        rintro e' w9 ⟨rfl, h9⟩
        clear HA M12
        go_upto_region 14 with fail
        have h10 := h9.alloc (.cells #[.int .i64 0, .int .i64 0] 67)
        clear h9
        generalize w9.alloc (.cells #[.int .i64 0, .int .i64 0] 67) = w10 at *
        generalize w9.heap.size = b14 at *
        have M12 : Tb.Blk w10 b12 46 (cs7 l0 e0 K V D I X) := loc_at h10 (k := 4) rfl _ (List.mem_cons_self ..)
        go_wp2_with (with_reducible refine load_pr rfl (.tmp 12) rfl b12 rfl M12 ?_)
        refine (Rc.ref_any l0 e0 K V D I X w10).mono ?_
        rintro e' w11 ⟨rfl, hb⟩
        have h11 := h10.later hb
        clear hb h10 M12
        go_upto_region 15 with fail
        have M16 : Tb.Blk (w11.alloc (.cells #[.int .u64 l0, .int .u32 e0, .int .i64 K, .int .u64 V, .int .u64 D, .string I, .string X] 70)) w11.heap.size 70 (cs7 l0 e0 K V D I X) := Tb.Blk.new w11 _ _
        have h12 := loc_new (l := [(w11.heap.size, 70, cs7 l0 e0 K V D I X)]) h11 (Tb.below1 w11 (.cells #[.int .u64 l0, .int .u32 e0, .int .i64 K, .int .u64 V, .int .u64 D, .string I, .string X] 70)) (fun x hx => by rcases List.mem_cons.1 hx with rfl | hx; exact M16; cases hx) (fun x hx => by rcases List.mem_cons.1 hx with rfl | hx; exact Nat.le_refl _; cases hx)
        clear M16 h11
        generalize w11.alloc (.cells #[.int .u64 l0, .int .u32 e0, .int .i64 K, .int .u64 V, .int .u64 D, .string I, .string X] 70) = w12 at *
        generalize w11.heap.size = b16 at *
        have M16 : Tb.Blk w12 b16 70 (cs7 l0 e0 K V D I X) := loc_at h12 (k := 5) rfl _ (List.mem_cons_self ..)
        have c16 : w12.cell? ⟨b16, 0, none⟩ = some (.int .u64 l0) := M16.cell 0
        have f16 := M16.frozen 0
        go_upto_region 16 with fail
        rw [set_row M16]
        have h13 := loc_drop (items := [Dk.diskI d s1, PLog g d t1 l1 1 1, rowS 67 2 (.slice A1 L.length q1) L.length (L.flatMap RI.c2), rowS 46 7 (.slice A2 L.length q2) L.length (L.flatMap RI.c7)]) (loc_drop (items := [Dk.diskI d s1, PLog g d t1 l1 1 1, rowS 67 2 (.slice A1 L.length q1) L.length (L.flatMap RI.c2), rowS 46 7 (.slice A2 L.length q2) L.length (L.flatMap RI.c7), locI [(b12, 46, cs7 l0 e0 K V D I X)]]) (loc_row (l' := []) h12 (k := 5) rfl b16 ⟨_, List.mem_cons_self .., rfl⟩ ((cs7 l0 e0 K V D I X).setIfInBounds 0 (.int .u64 1)) (fun x hx => by cases hx) (fun x hx => by cases hx)))
        replace h13 : Dk.Sep wB (w12.setRow b16 ((cs7 l0 e0 K V D I X).setIfInBounds 0 (.int .u64 1))) [Dk.diskI d s1, PLog g d t1 l1 1 1, rowS 67 2 (.slice A1 L.length q1) L.length (L.flatMap RI.c2), rowS 46 7 (.slice A2 L.length q2) L.length (L.flatMap RI.c7)] := h13
        have HI2 := Lib.hid h13
        clear h12 h13 M16 c16 f16
        generalize w12.setRow b16 ((cs7 l0 e0 K V D I X).setIfInBounds 0 (.int .u64 1)) = w13 at *
        go_wp2_with fail
        go_roundg (60 - (i + 1))
        case measure => have := HG.out; omega
        case rel => exact ⟨i + 1, s1, t1, l1, L, _, _, by omega, rfl, by go_num, rfl, rfl, HP2, HI2⟩
      · have HB1 : Hid (K ≠ 3 ∧ ok = true) := Lib.hid ⟨fun h => hbad (.inl h), by cases ok; exact absurd (.inr rfl) hbad; rfl⟩
        clear hbad
        by_cases hr0 : rm = 0
        · have HE : Hid (appS t1 s1 l1 1 K V D I X = (s1, t1, l1, 0, 0, 10)) := Lib.hid (app_full HB1.out.1 (by rw [HOK.out]; exact HB1.out.2) (by rw [HERM.out]; exact hr0))
          have HA := Lib.hid (app_fix h8 K V D I X HP.out.1 (show 2 * i ≤ 1000 by omega) HE.out (show (10 : Int) ≠ 9 by decide) l0 e0 HV.out HD.out (show I.size ≤ 1000 by have := HI8.out; omega) (show X.size ≤ 1000 by have := HX8.out; omega))
          have HP2 : Hid (LogP (2 * (i + 1)) t1 s1 l1 1 ∧ s1.set = false ∧ L.length ≤ i + 1 ∧ Got t1 s1 l1 L) := Lib.hid ⟨HP.out.1.le (by omega), HP.out.2.1, by have := HP.out.2.2.1; omega, HP.out.2.2.2⟩
          clear h8 HE HP
          go_wp2_with (with_reducible refine load_pr rfl (.tmp 12) rfl b12 rfl M12 ?_)
          refine HA.out.mono ?_
          rintro e' w9 ⟨rfl, h9⟩
          clear HA M12
          go_upto_region 14 with fail
          have h10 := h9.alloc (.cells #[.int .i64 0, .int .i64 0] 67)
          clear h9
          generalize w9.alloc (.cells #[.int .i64 0, .int .i64 0] 67) = w10 at *
          generalize w9.heap.size = b14 at *
          have M12 : Tb.Blk w10 b12 46 (cs7 l0 e0 K V D I X) := loc_at h10 (k := 4) rfl _ (List.mem_cons_self ..)
          go_wp2_with (with_reducible refine load_pr rfl (.tmp 12) rfl b12 rfl M12 ?_)
          refine (Rc.ref_any l0 e0 K V D I X w10).mono ?_
          rintro e' w11 ⟨rfl, hb⟩
          have h11 := h10.later hb
          clear hb h10 M12
          go_upto_region 15 with fail
          have M16 : Tb.Blk (w11.alloc (.cells #[.int .u64 l0, .int .u32 e0, .int .i64 K, .int .u64 V, .int .u64 D, .string I, .string X] 70)) w11.heap.size 70 (cs7 l0 e0 K V D I X) := Tb.Blk.new w11 _ _
          have h12 := loc_new (l := [(w11.heap.size, 70, cs7 l0 e0 K V D I X)]) h11 (Tb.below1 w11 (.cells #[.int .u64 l0, .int .u32 e0, .int .i64 K, .int .u64 V, .int .u64 D, .string I, .string X] 70)) (fun x hx => by rcases List.mem_cons.1 hx with rfl | hx; exact M16; cases hx) (fun x hx => by rcases List.mem_cons.1 hx with rfl | hx; exact Nat.le_refl _; cases hx)
          clear M16 h11
          generalize w11.alloc (.cells #[.int .u64 l0, .int .u32 e0, .int .i64 K, .int .u64 V, .int .u64 D, .string I, .string X] 70) = w12 at *
          generalize w11.heap.size = b16 at *
          have M16 : Tb.Blk w12 b16 70 (cs7 l0 e0 K V D I X) := loc_at h12 (k := 5) rfl _ (List.mem_cons_self ..)
          have c16 : w12.cell? ⟨b16, 0, none⟩ = some (.int .u64 l0) := M16.cell 0
          have f16 := M16.frozen 0
          go_upto_region 16 with fail
          rw [set_row M16]
          have h13 := loc_drop (items := [Dk.diskI d s1, PLog g d t1 l1 1 1, rowS 67 2 (.slice A1 L.length q1) L.length (L.flatMap RI.c2), rowS 46 7 (.slice A2 L.length q2) L.length (L.flatMap RI.c7)]) (loc_drop (items := [Dk.diskI d s1, PLog g d t1 l1 1 1, rowS 67 2 (.slice A1 L.length q1) L.length (L.flatMap RI.c2), rowS 46 7 (.slice A2 L.length q2) L.length (L.flatMap RI.c7), locI [(b12, 46, cs7 l0 e0 K V D I X)]]) (loc_row (l' := []) h12 (k := 5) rfl b16 ⟨_, List.mem_cons_self .., rfl⟩ ((cs7 l0 e0 K V D I X).setIfInBounds 0 (.int .u64 1)) (fun x hx => by cases hx) (fun x hx => by cases hx)))
          replace h13 : Dk.Sep wB (w12.setRow b16 ((cs7 l0 e0 K V D I X).setIfInBounds 0 (.int .u64 1))) [Dk.diskI d s1, PLog g d t1 l1 1 1, rowS 67 2 (.slice A1 L.length q1) L.length (L.flatMap RI.c2), rowS 46 7 (.slice A2 L.length q2) L.length (L.flatMap RI.c7)] := h13
          have HI2 := Lib.hid h13
          clear h12 h13 M16 c16 f16
          generalize w12.setRow b16 ((cs7 l0 e0 K V D I X).setIfInBounds 0 (.int .u64 1)) = w13 at *
          go_wp2_with fail
          go_roundg (60 - (i + 1))
          case measure => have := HG.out; omega
          case rel => exact ⟨i + 1, s1, t1, l1, L, _, _, by omega, rfl, by go_num, rfl, rfl, HP2, HI2⟩
        · have hrp : 0 < Tb.roomT t1 := by
            have h1 := (Tb.ok_bounds HP.out.1.ok).r.1
            rw [HERM.out]
            rw [HERM.out] at h1
            omega
          obtain ⟨s2, t2, l2, p1, p2, E, hs2, hG2⟩ := HP.out.2.2.2.next HP.out.1 (show 2 * i ≤ 1000 by omega) HP.out.2.1 hrp HB1.out.1 HV.out HD.out (by rw [HOK.out]; exact HB1.out.2) l0 e0
          have hP2 := app_p (ep := 1) (K := K) (V := V) (D := D) (I := I) (X := X) HP.out.1
          rw [E] at hP2
          have HP2 : Hid (LogP (2 * (i + 1)) t2 s2 l2 1 ∧ s2.set = false ∧ (L ++ [(⟨p1, p2, l2 - 1, l0, e0, K, V, D, I, X⟩ : RI)]).length ≤ i + 1 ∧ Got t2 s2 l2 (L ++ [(⟨p1, p2, l2 - 1, l0, e0, K, V, D, I, X⟩ : RI)])) := Lib.hid ⟨hP2, hs2, by have := HP.out.2.2.1; simp; omega, hG2⟩
          have HLL : Hid (L.length < 1000) := Lib.hid (by have := HP.out.2.2.1; omega)
          have HA := Lib.hid (app_fix h8 K V D I X HP.out.1 (show 2 * i ≤ 1000 by omega) E (show (0 : Int) ≠ 9 by decide) l0 e0 HV.out HD.out (show I.size ≤ 1000 by have := HI8.out; omega) (show X.size ≤ 1000 by have := HX8.out; omega))
          have HOK1 : Hid (Rc.okR ⟨1, e0, K, V, D, I.data.toList, X.data.toList⟩ = true) := Lib.hid (okR_stamp (by decide) (by rw [HOK.out]; exact HB1.out.2))
          have HK3 := HB1.out.1
          have qK : (K == 3) = false := by simp [HK3]
          have qr : (rm == 0) = false := by simp [hr0]
          clear E hs2 hG2 hP2 hrp HP HERM HOK HB1 h8
          go_wp2_with (with_reducible refine load_pr rfl (.tmp 12) rfl b12 rfl M12 ?_)
          refine HA.out.mono ?_
          rintro e' w9 ⟨rfl, h9⟩
          clear HA M12
          go_upto_region 14 with fail
          have M14 : Tb.Blk (w9.alloc (.cells #[.int .i64 p1, .int .i64 p2] 67)) w9.heap.size 67 #[.int .i64 p1, .int .i64 p2] := Tb.Blk.new w9 _ _
          have h10 := loc_new (l := [(w9.heap.size, 67, #[.int .i64 p1, .int .i64 p2])]) h9 (Tb.below1 w9 (.cells #[.int .i64 p1, .int .i64 p2] 67)) (fun x hx => by rcases List.mem_cons.1 hx with rfl | hx; exact M14; cases hx) (fun x hx => by rcases List.mem_cons.1 hx with rfl | hx; exact Nat.le_refl _; cases hx)
          clear M14 h9
          generalize w9.alloc (.cells #[.int .i64 p1, .int .i64 p2] 67) = w10 at *
          generalize w9.heap.size = b14 at *
          have M12 : Tb.Blk w10 b12 46 (cs7 l0 e0 K V D I X) := loc_at h10 (k := 4) rfl _ (List.mem_cons_self ..)
          go_wp2_with (with_reducible refine load_pr rfl (.tmp 12) rfl b12 rfl M12 ?_)
          refine (Rc.ref_any l0 e0 K V D I X w10).mono ?_
          rintro e' w11 ⟨rfl, hb⟩
          have h11 := h10.later hb
          clear hb h10 M12
          go_upto_region 15 with fail
          have M16 : Tb.Blk (w11.alloc (.cells #[.int .u64 l0, .int .u32 e0, .int .i64 K, .int .u64 V, .int .u64 D, .string I, .string X] 70)) w11.heap.size 70 (cs7 l0 e0 K V D I X) := Tb.Blk.new w11 _ _
          have h12 := loc_new (l := [(w11.heap.size, 70, cs7 l0 e0 K V D I X)]) h11 (Tb.below1 w11 (.cells #[.int .u64 l0, .int .u32 e0, .int .i64 K, .int .u64 V, .int .u64 D, .string I, .string X] 70)) (fun x hx => by rcases List.mem_cons.1 hx with rfl | hx; exact M16; cases hx) (fun x hx => by rcases List.mem_cons.1 hx with rfl | hx; exact Nat.le_refl _; cases hx)
          clear M16 h11
          generalize w11.alloc (.cells #[.int .u64 l0, .int .u32 e0, .int .i64 K, .int .u64 V, .int .u64 D, .string I, .string X] 70) = w12 at *
          generalize w11.heap.size = b16 at *
          have M16 : Tb.Blk w12 b16 70 (cs7 l0 e0 K V D I X) := loc_at h12 (k := 6) rfl _ (List.mem_cons_self ..)
          have c16 : w12.cell? ⟨b16, 0, none⟩ = some (.int .u64 l0) := M16.cell 0
          have f16 := M16.frozen 0
          go_upto_region 16 with fail
          rw [set_row M16]
          have h13 := loc_row (l' := [(b16, 70, cs7 1 e0 K V D I X)]) h12 (k := 6) rfl b16 ⟨_, List.mem_cons_self .., rfl⟩ ((cs7 l0 e0 K V D I X).setIfInBounds 0 (.int .u64 1)) (fun x hx => by rcases List.mem_cons.1 hx with rfl | hx; exact M16.row _; cases hx) (fun x hx => by rcases List.mem_cons.1 hx with rfl | hx; exact ⟨_, List.mem_cons_self .., rfl⟩; cases hx)
          replace h13 : Dk.Sep wB (w12.setRow b16 ((cs7 l0 e0 K V D I X).setIfInBounds 0 (.int .u64 1))) [Dk.diskI d s2, PLog g d t2 l2 1 1, rowS 67 2 (.slice A1 L.length q1) L.length (L.flatMap RI.c2), rowS 46 7 (.slice A2 L.length q2) L.length (L.flatMap RI.c7), locI [(b12, 46, cs7 l0 e0 K V D I X)], locI [(b14, 67, #[.int .i64 p1, .int .i64 p2])], locI [(b16, 70, cs7 1 e0 K V D I X)]] := h13
          clear h12 M16 c16 f16
          generalize w12.setRow b16 ((cs7 l0 e0 K V D I X).setIfInBounds 0 (.int .u64 1)) = w13 at *
          have M12 : Tb.Blk w13 b12 46 (cs7 l0 e0 K V D I X) := loc_at h13 (k := 4) rfl _ (List.mem_cons_self ..)
          have M16 : Tb.Blk w13 b16 70 (cs7 1 e0 K V D I X) := loc_at h13 (k := 6) rfl _ (List.mem_cons_self ..)
          have c12 : w13.cell? ⟨b12, 2, none⟩ = some (.int .i64 K) := M12.cell 2
          have c0 : w13.cell? ⟨b16, 0, none⟩ = some (.int .u64 1) := M16.cell 0
          have c1 : w13.cell? ⟨b16, 1, none⟩ = some (.int .u32 e0) := M16.cell 1
          have c2 : w13.cell? ⟨b16, 2, none⟩ = some (.int .i64 K) := M16.cell 2
          have c3 : w13.cell? ⟨b16, 3, none⟩ = some (.int .u64 V) := M16.cell 3
          have c4 : w13.cell? ⟨b16, 4, none⟩ = some (.int .u64 D) := M16.cell 4
          have c5 : w13.cell? ⟨b16, 5, none⟩ = some (.string I) := M16.cell 5
          have c6 : w13.cell? ⟨b16, 6, none⟩ = some (.string X) := M16.cell 6
          have HRT := Lib.hid (fun W => Rc.R6.right_any 1 e0 K V D I X true W (by have := HI8.out; unfold maxLen; omega) (by have := HX8.out; unfold maxLen; omega) HOK1.out)
          clear M12 M16
          go_wp2_with fail
          refine (HRT.out _).mono ?_
          rintro e' w14 ⟨rfl, hb⟩
          have h14 := h13.later hb
          clear hb h13 HRT c0 c1 c2 c3 c4 c5 c6 c12
          go_upto_region 19 with fail
          have M14 : Tb.Blk w14 b14 67 #[.int .i64 p1, .int .i64 p2] := loc_at h14 (k := 5) rfl _ (List.mem_cons_self ..)
          have c0 : w14.cell? ⟨b14, 0, none⟩ = some (.int .i64 p1) := M14.cell 0
          have c1 : w14.cell? ⟨b14, 1, none⟩ = some (.int .i64 p2) := M14.cell 1
          clear M14
          go_upto_region 20 with (refine wp_append_s (cs := [.int .i64 p1, .int .i64 p2]) loc_infos rfl (by decide) (by decide) Tryz.underlying59 rfl (.tmp 100) (.tmp 102) rfl rfl rfl h14 2 rfl HLL.out rfl (by intro u hu; rcases List.mem_cons.1 hu with rfl | hu; rfl; rcases List.mem_cons.1 hu with rfl | hu; rfl; cases hu) ?_; intro v3 w15 h15; clear c0 c1 h14)
          have M12 : Tb.Blk w15 b12 46 (cs7 l0 e0 K V D I X) := loc_at h15 (k := 4) rfl _ (List.mem_cons_self ..)
          have c0 : w15.cell? ⟨b12, 0, none⟩ = some (.int .u64 l0) := M12.cell 0
          have c1 : w15.cell? ⟨b12, 1, none⟩ = some (.int .u32 e0) := M12.cell 1
          have c2 : w15.cell? ⟨b12, 2, none⟩ = some (.int .i64 K) := M12.cell 2
          have c3 : w15.cell? ⟨b12, 3, none⟩ = some (.int .u64 V) := M12.cell 3
          have c4 : w15.cell? ⟨b12, 4, none⟩ = some (.int .u64 D) := M12.cell 4
          have c5 : w15.cell? ⟨b12, 5, none⟩ = some (.string I) := M12.cell 5
          have c6 : w15.cell? ⟨b12, 6, none⟩ = some (.string X) := M12.cell 6
          clear M12
          go_upto_region 10 with (refine wp_append_s (cs := [.int .u64 l0, .int .u32 e0, .int .i64 K, .int .u64 V, .int .u64 D, .string I, .string X]) rec_infos rfl (by decide) (by decide) Tryz.underlying56 rfl (.tmp 104) (.tmp 106) rfl rfl rfl h15 3 rfl HLL.out rfl (by intro u hu; simp only [List.mem_cons, List.not_mem_nil, or_false] at hu; rcases hu with rfl | rfl | rfl | rfl | rfl | rfl | rfl <;> rfl) ?_; intro v4 w16 h16; clear c0 c1 c2 c3 c4 c5 c6 h15)
          have h17 := loc_drop (items := [Dk.diskI d s2, PLog g d t2 l2 1 1, rowS 67 2 v3 (L.length + 1) (L.flatMap RI.c2 ++ [.int .i64 p1, .int .i64 p2]), rowS 46 7 v4 (L.length + 1) (L.flatMap RI.c7 ++ [.int .u64 l0, .int .u32 e0, .int .i64 K, .int .u64 V, .int .u64 D, .string I, .string X])]) (loc_drop (items := [Dk.diskI d s2, PLog g d t2 l2 1 1, rowS 67 2 v3 (L.length + 1) (L.flatMap RI.c2 ++ [.int .i64 p1, .int .i64 p2]), rowS 46 7 v4 (L.length + 1) (L.flatMap RI.c7 ++ [.int .u64 l0, .int .u32 e0, .int .i64 K, .int .u64 V, .int .u64 D, .string I, .string X]), locI [(b12, 46, cs7 l0 e0 K V D I X)]]) (loc_drop h16))
          have HI2 : Hid (Dk.Sep wB w16 [Dk.diskI d s2, PLog g d t2 l2 1 1, rowS 67 2 v3 (L ++ [(⟨p1, p2, l2 - 1, l0, e0, K, V, D, I, X⟩ : RI)]).length ((L ++ [(⟨p1, p2, l2 - 1, l0, e0, K, V, D, I, X⟩ : RI)]).flatMap RI.c2), rowS 46 7 v4 (L ++ [(⟨p1, p2, l2 - 1, l0, e0, K, V, D, I, X⟩ : RI)]).length ((L ++ [(⟨p1, p2, l2 - 1, l0, e0, K, V, D, I, X⟩ : RI)]).flatMap RI.c7)]) := Lib.hid (by
            rw [List.length_append, List.flatMap_append, List.flatMap_append]
            simpa [RI.c2, RI.c7] using h17)
          clear h16 h17
          go_wp2_with fail
          go_roundg (60 - (i + 1))
          case measure => have := HG.out; omega
          case rel => exact ⟨i + 1, s2, t2, l2, _, v3, v4, by omega, rfl, by go_num, rfl, rfl, HP2, HI2⟩
    · go_upto_region 9 with fail
      go_cut [50] from 43 to 49 (fun s50 wx => s50 = .bool false ∧ wr = wx)
      case first =>
        by_cases hlt : (i : Int) < (N1 : Int)
        · have q1 : decide ((i : Int) < (N1 : Int)) = true := decide_eq_true hlt
          have q2 : decide ((i : Int) < 60) = false := decide_eq_false (fun h => hgo ⟨hlt, h⟩)
          have q3 : ¬ (i : Int) < 60 := fun h => hgo ⟨hlt, h⟩
          clear hgo
          go_wp2_with fail
          go_meet
          exact ⟨rfl, rfl⟩
        · have q1 : decide ((i : Int) < (N1 : Int)) = false := decide_eq_false hlt
          clear hgo
          go_wp2_with fail
          go_meet
          exact ⟨rfl, rfl⟩
      case rest =>
      obtain ⟨rfl, rfl⟩ := hcut
      clear hgo
      have HGT := Lib.hid HP.out.2.2.2
      have hL60 : L.length ≤ 60 := by have := HP.out.2.2.1; omega
      go_wp2_with fail
      go_loopg [17, 10] 60 (fun gk2 s17 s10 wr2 => ∃ (j : Nat) (last : Int), j ≤ L.length ∧ gk2 = 60 - j ∧ s17 = .int .i64 (j : Nat) ∧ s10 = .int .u64 last ∧ Hid (∀ r ∈ L.drop j, last < r.l) ∧ Hid (Dk.Sep wB wr2 [Dk.diskI d s1, PLog g d t1 l1 1 1, rowS 67 2 (.slice A1 L.length q1) L.length (L.flatMap RI.c2), rowS 46 7 (.slice A2 L.length q2) L.length (L.flatMap RI.c7)]))
      case atStart => exact ⟨0, 0, by omega, rfl, rfl, rfl, Lib.hid (fun r hr => (HGT.out.bd r hr).1), HI⟩
      case round =>
        obtain ⟨j, last, hj, hgk2, rfl, rfl, HLA, HI2⟩ := hrel
        have HG2 := Lib.hid hgk2
        clear hgk2 HI
        by_cases hlt : j < L.length
        · have hlti : (j : Int) < (L.length : Int) := by omega
          obtain ⟨r, hr⟩ : ∃ r, L[j]? = some r := ⟨_, List.getElem?_eq_getElem hlt⟩
          have hmem : r ∈ L := List.mem_of_getElem? hr
          have hd : L.drop j = r :: L.drop (j + 1) := by
            rw [List.drop_eq_getElem_cons hlt]
            congr 1
            rw [List.getElem?_eq_getElem hlt] at hr
            exact Option.some.inj hr
          obtain ⟨ga, ea, hca⟩ := rows_cell HI2.out (k := 2) rfl (by omega)
          obtain ⟨gb, eb, hcb⟩ := rows_cell HI2.out (k := 3) rfl (by omega)
          subst ea eb
          have c0 : wr.cell? ⟨ga, j * 2, none⟩ = some (.int .i64 r.p1) := (hca (j * 2) (by omega)).trans (flat_get RI.c2 2 (fun _ => rfl) L j r 0 hr (by decide))
          have c1 : wr.cell? ⟨ga, j * 2 + 1, none⟩ = some (.int .i64 r.p2) := (hca (j * 2 + 1) (by omega)).trans (flat_get RI.c2 2 (fun _ => rfl) L j r 1 hr (by decide))
          have HRD := Lib.hid (read_fix HI2.out r.p1 r.p2 HP.out.1 (show 2 * i ≤ 1000 by omega) (read_stands (HGT.out.st r hmem)))
          have HCB : Hid (∀ k, k < 7 → wr.cell? ⟨gb, j * 7 + k, none⟩ = r.c7[k]?) := Lib.hid (fun k hk => (hcb (j * 7 + k) (by omega)).trans (flat_get RI.c7 7 (fun _ => rfl) L j r k hr hk))
          have hgb : gb < wr.heap.size := by
            have := HCB.out 0 (by decide)
            exact (spot_none (h := this)).2
          have HLL : Hid (last < r.l ∧ ∀ y ∈ L.drop (j + 1), r.l < y.l) := Lib.hid ⟨HLA.out r (by rw [hd]; exact List.mem_cons_self ..), fun y hy => by
            have h1 := HGT.out.up.sublist (List.drop_sublist j L)
            rw [hd] at h1
            exact List.rel_of_pairwise_cons h1 hy⟩
          have HBD := Lib.hid (HGT.out.bd r hmem)
          have HLS2 := Lib.hid (And.intro HP.out.1.ls1 HP.out.1.ls2)
          have e1 : (⟨r.i.data.toList.toArray⟩ : ByteArray) = r.i := by simp
          have e2 : (⟨r.a.data.toList.toArray⟩ : ByteArray) = r.a := by simp
          unfold RI.rc at HRD
          simp only [e1, e2] at HRD
          clear hca hcb hr hmem hd e1 e2 HLA
          go_wp2_with fail
          refine HRD.out.mono ?_
          rintro e' w5 ⟨rfl, hb⟩
          have h5 := HI2.out.later hb
          have HCB5 : Hid (∀ k, k < 7 → w5.cell? ⟨gb, j * 7 + k, none⟩ = r.c7[k]?) := Lib.hid (fun k hk => (hb.cell (p := ⟨gb, j * 7 + k, none⟩) hgb).trans (HCB.out k hk))
          have hgb5 : gb < w5.heap.size := Nat.lt_of_lt_of_le hgb hb.size
          clear hb HRD HCB HI2 hgb c0 c1
          go_upto_region 25 with fail
          have h6 := h5.alloc (.cells #[.int .u64 r.l, .int .u32 1, .int .i64 r.k, .int .u64 r.v, .int .u64 r.d, .string r.i, .string r.a] 46)
          have M18 : Tb.Blk (w5.alloc (.cells #[.int .u64 r.l, .int .u32 1, .int .i64 r.k, .int .u64 r.v, .int .u64 r.d, .string r.i, .string r.a] 46)) w5.heap.size 46 (cs7 r.l 1 r.k r.v r.d r.i r.a) := Tb.Blk.new w5 _ _
          have hb6 := Tb.below1 w5 (.cells #[.int .u64 r.l, .int .u32 1, .int .i64 r.k, .int .u64 r.v, .int .u64 r.d, .string r.i, .string r.a] 46)
          have hcb6 : ∀ k, k < 7 → (w5.alloc (.cells #[.int .u64 r.l, .int .u32 1, .int .i64 r.k, .int .u64 r.v, .int .u64 r.d, .string r.i, .string r.a] 46)).cell? ⟨gb, j * 7 + k, none⟩ = r.c7[k]? := fun k hk => (hb6.cell (p := ⟨gb, j * 7 + k, none⟩) hgb5).trans (HCB5.out k hk)
          clear h5 hb6 HCB5 hgb5
          generalize w5.alloc (.cells #[.int .u64 r.l, .int .u32 1, .int .i64 r.k, .int .u64 r.v, .int .u64 r.d, .string r.i, .string r.a] 46) = w6 at *
          generalize w5.heap.size = b18 at *
          have c0 : w6.cell? ⟨gb, j * 7, none⟩ = some (.int .u64 r.l0) := hcb6 0 (by decide)
          have c1 : w6.cell? ⟨gb, j * 7 + 1, none⟩ = some (.int .u32 r.e0) := hcb6 1 (by decide)
          have c2 : w6.cell? ⟨gb, j * 7 + 2, none⟩ = some (.int .i64 r.k) := hcb6 2 (by decide)
          have c3 : w6.cell? ⟨gb, j * 7 + 3, none⟩ = some (.int .u64 r.v) := hcb6 3 (by decide)
          have c4 : w6.cell? ⟨gb, j * 7 + 4, none⟩ = some (.int .u64 r.d) := hcb6 4 (by decide)
          have c5 : w6.cell? ⟨gb, j * 7 + 5, none⟩ = some (.string r.i) := hcb6 5 (by decide)
          have c6 : w6.cell? ⟨gb, j * 7 + 6, none⟩ = some (.string r.a) := hcb6 6 (by decide)
          clear hcb6
          go_upto_region 26 with fail
          have h7 := loc_new (l := [(w6.heap.size, 46, cs7 r.l0 r.e0 r.k r.v r.d r.i r.a)]) h6 (Tb.below1 w6 (.cells #[.int .u64 r.l0, .int .u32 r.e0, .int .i64 r.k, .int .u64 r.v, .int .u64 r.d, .string r.i, .string r.a] 46)) (fun x hx => by rcases List.mem_cons.1 hx with rfl | hx; exact Tb.Blk.new w6 _ _; cases hx) (fun x hx => by rcases List.mem_cons.1 hx with rfl | hx; exact Nat.le_refl _; cases hx)
          have M20 : Tb.Blk (w6.alloc (.cells #[.int .u64 r.l0, .int .u32 r.e0, .int .i64 r.k, .int .u64 r.v, .int .u64 r.d, .string r.i, .string r.a] 46)) w6.heap.size 46 (cs7 r.l0 r.e0 r.k r.v r.d r.i r.a) := Tb.Blk.new w6 _ _
          have hne : w6.heap.size ≠ b18 := by have := M18.lt; omega
          replace M18 := M18.later (Tb.below1 w6 (.cells #[.int .u64 r.l0, .int .u32 r.e0, .int .i64 r.k, .int .u64 r.v, .int .u64 r.d, .string r.i, .string r.a] 46))
          clear h6 c0 c1 c2 c3 c4 c5 c6
          generalize w6.alloc (.cells #[.int .u64 r.l0, .int .u32 r.e0, .int .i64 r.k, .int .u64 r.v, .int .u64 r.d, .string r.i, .string r.a] 46) = w7 at *
          generalize w6.heap.size = b20 at *
          have c18 : w7.cell? ⟨b18, 0, none⟩ = some (.int .u64 r.l) := M18.cell 0
          have c20 : w7.cell? ⟨b20, 0, none⟩ = some (.int .u64 r.l0) := M20.cell 0
          have f20 := M20.frozen 0
          go_upto_region 27 with fail
          rw [set_row M20]
          have h8 := loc_row (l' := [(b20, 46, cs7 r.l r.e0 r.k r.v r.d r.i r.a)]) h7 (k := 4) rfl b20 ⟨_, List.mem_cons_self .., rfl⟩ ((cs7 r.l0 r.e0 r.k r.v r.d r.i r.a).setIfInBounds 0 (.int .u64 r.l)) (fun x hx => by rcases List.mem_cons.1 hx with rfl | hx; exact M20.row _; cases hx) (fun x hx => by rcases List.mem_cons.1 hx with rfl | hx; exact ⟨_, List.mem_cons_self .., rfl⟩; cases hx)
          have N20 := M20.row ((cs7 r.l0 r.e0 r.k r.v r.d r.i r.a).setIfInBounds 0 (.int .u64 r.l))
          change Tb.Blk _ _ _ (cs7 r.l r.e0 r.k r.v r.d r.i r.a) at N20
          have N18 : Tb.Blk (w7.setRow b20 ((cs7 r.l0 r.e0 r.k r.v r.d r.i r.a).setIfInBounds 0 (.int .u64 r.l))) b18 46 (cs7 r.l 1 r.k r.v r.d r.i r.a) := M18.far hne _
          clear h7 M18 M20 c18 c20 f20
          generalize w7.setRow b20 ((cs7 r.l0 r.e0 r.k r.v r.d r.i r.a).setIfInBounds 0 (.int .u64 r.l)) = w8 at *
          have c21 : w8.cell? ⟨b20, 1, none⟩ = some (.int .u32 r.e0) := N20.cell 1
          have f21 := N20.frozen 1
          go_upto_region 28 with fail
          rw [set_row N20]
          have h9 := loc_drop (items := [Dk.diskI d s1, PLog g d t1 l1 1 1, rowS 67 2 (.slice (some ⟨ga, 0, none⟩) L.length q1) L.length (L.flatMap RI.c2), rowS 46 7 (.slice (some ⟨gb, 0, none⟩) L.length q2) L.length (L.flatMap RI.c7)]) (loc_row (l' := []) h8 (k := 4) rfl b20 ⟨_, List.mem_cons_self .., rfl⟩ ((cs7 r.l r.e0 r.k r.v r.d r.i r.a).setIfInBounds 1 (.int .u32 1)) (fun x hx => by cases hx) (fun x hx => by cases hx))
          replace h9 : Dk.Sep wB (w8.setRow b20 ((cs7 r.l r.e0 r.k r.v r.d r.i r.a).setIfInBounds 1 (.int .u32 1))) [Dk.diskI d s1, PLog g d t1 l1 1 1, rowS 67 2 (.slice (some ⟨ga, 0, none⟩) L.length q1) L.length (L.flatMap RI.c2), rowS 46 7 (.slice (some ⟨gb, 0, none⟩) L.length q2) L.length (L.flatMap RI.c7)] := h9
          have P20 := N20.row ((cs7 r.l r.e0 r.k r.v r.d r.i r.a).setIfInBounds 1 (.int .u32 1))
          change Tb.Blk _ _ _ (cs7 r.l 1 r.k r.v r.d r.i r.a) at P20
          have P18 : Tb.Blk (w8.setRow b20 ((cs7 r.l r.e0 r.k r.v r.d r.i r.a).setIfInBounds 1 (.int .u32 1))) b18 46 (cs7 r.l 1 r.k r.v r.d r.i r.a) := N18.far hne _
          clear h8 N18 N20 c21 f21
          generalize w8.setRow b20 ((cs7 r.l r.e0 r.k r.v r.d r.i r.a).setIfInBounds 1 (.int .u32 1)) = w9 at *
          have HI3 := Lib.hid h9
          have HLN : Hid (∀ y ∈ L.drop (j + 1), r.l < y.l) := Lib.hid HLL.out.2
          have hll := HLL.out.1
          clear h9
          obtain ⟨rp1, rp2, rl, rl0, re0, rk, rv, rd, ri, ra⟩ := r
          simp only at P18 P20 hll HLN
          have a0 : w9.cell? ⟨b18, 0, none⟩ = some (.int .u64 rl) := P18.cell 0
          have a1 : w9.cell? ⟨b18, 1, none⟩ = some (.int .u32 1) := P18.cell 1
          have a2 : w9.cell? ⟨b18, 2, none⟩ = some (.int .i64 rk) := P18.cell 2
          have a3 : w9.cell? ⟨b18, 3, none⟩ = some (.int .u64 rv) := P18.cell 3
          have a4 : w9.cell? ⟨b18, 4, none⟩ = some (.int .u64 rd) := P18.cell 4
          have a5 : w9.cell? ⟨b18, 5, none⟩ = some (.string ri) := P18.cell 5
          have a6 : w9.cell? ⟨b18, 6, none⟩ = some (.string ra) := P18.cell 6
          have b0' : w9.cell? ⟨b20, 0, none⟩ = some (.int .u64 rl) := P20.cell 0
          have b1' : w9.cell? ⟨b20, 1, none⟩ = some (.int .u32 1) := P20.cell 1
          have b2' : w9.cell? ⟨b20, 2, none⟩ = some (.int .i64 rk) := P20.cell 2
          have b3' : w9.cell? ⟨b20, 3, none⟩ = some (.int .u64 rv) := P20.cell 3
          have b4' : w9.cell? ⟨b20, 4, none⟩ = some (.int .u64 rd) := P20.cell 4
          have b5' : w9.cell? ⟨b20, 5, none⟩ = some (.string ri) := P20.cell 5
          have b6' : w9.cell? ⟨b20, 6, none⟩ = some (.string ra) := P20.cell 6
          have ql : decide (rl ≤ last) = false := decide_eq_false (by omega)
          clear P18 P20 hne
          go_wp2_with fail
          go_roundg (60 - (j + 1))
          case measure => have := HG2.out; omega
          case rel => exact ⟨j + 1, rl, by omega, rfl, by go_num, rfl, HLN, HI3⟩
        · have hlti : ¬ (j : Int) < (L.length : Int) := by omega
          have ql : decide ((j : Int) < (L.length : Int)) = false := decide_eq_false hlti
          go_wp2_with fail
          refine (tab_fix HI2.out).mono ?_
          rintro e' w5 ⟨A, m9, p9, B, k9, q9, C, n9, r9, rfl, ht, h5⟩
          have HUS := Lib.hid (used_fix (p := p9) (q := q9) (r := r9) ht HP.out.1.ok)
          have H5 := Lib.hid h5
          have HUL := HGT.out.used
          rw [HUL] at HUS
          clear ht h5 HI2 HUL
          go_wp2_with fail
          refine HUS.out.mono ?_
          rintro e' w6 ⟨rfl, hb⟩
          have H6 := Lib.hid (H5.out.later hb)
          clear hb H5 HUS
          go_wp2_with fail
          refine (fixed_any _).mono ?_
          rintro e' w8 ⟨rfl, hb⟩
          have BB7 := Lib.hid (BBA.out.trans ((H6.out.later hb).below.mono BBA.out.size))
          clear hb
          go_wp2_with fail
          go_ret
          exact ⟨rfl, BB7.out⟩
set_option maxRecDepth 100000 in
theorem lifted (os : Os) (started : os.Started) (H : Type) (enc : TypeId × Value → H) :
    ReturnsInHanded {} Tryz.checked os 4 .any (Rows.logReadsSpec.pre6 enc Tryz.prog Tryz.f4 Rows.logReadsRow.domain false) (Rows.logReadsSpec.post enc Tryz.prog Tryz.f4 false true false false) := by
  refine returnsInHanded_of_change (C := Tryz.checked) own started (by kernel_rfl) Tryz.func4
    (ChangeSpec.witness6 (enc := enc) (C := Tryz.checked) false ⟨#[], #[.agg #[.int .i64 0, .int .i64 0, .float .f64 0, .int .i64 0], .slice none 0 0], []⟩ 8 (by kernel_rfl) (by kernel_rfl) (by kernel_rfl) (by kernel_rfl)) ?_
  intro W base args ds gs before hval0 hW hcnd _
  have hval : ∀ (j : Nat) t v, Tryz.f4.params[j]? = some t → args[j]? = some v → Value.okWide Tryz.prog W .any base t v := hval0
  have hW' := hW
  obtain ⟨p, q, hA0, hV, rfl, hfz, hnd⟩ := hW
  have hA : DataW.TrodAll enc Tryz.prog W 0 (fun _ => true) true Tryz.f4.params.toList args.toList ds p := hA0
  rw [Tryz.params4] at hA hval
  obtain ⟨v0, vs0, d0, ds0, p0, q0, hargs, rfl, rfl, h0, r0⟩ := trodAll_cons hA
  obtain ⟨v1, vs1, d1, ds1, p1, q1, rfl, rfl, rfl, h1, r1⟩ := trodAll_cons r0
  obtain ⟨rfl, rfl, rfl⟩ := trodAll_nil r1
  obtain rfl : args = #[v0, v1] := by cases args; simp_all
  obtain ⟨rfl, rfl⟩ := trodVars_none hV
  obtain ⟨sg0, sl0, x0, rt0, rfl, hx0⟩ := Lg.open_conf (hval 0 24 v0 rfl rfl) h0
  obtain ⟨L1, N1, c1, f1, rfl, hN1, hL1⟩ := Lg.open_recs (hval 1 56 v1 rfl rfl) h1
  clear hA0 hval0
  try simp only [List.append_nil] at hW'
  try simp only [List.nil_append] at hW'
  have hlt := fun x hx => hW'.lt x hx
  refine (walk sg0 sl0 x0 rt0 L1 N1 c1 f1 W hx0 hN1 hL1).mono fun e W' ⟨he, hg⟩ => ?_
  subst he
  refine ⟨_, rfl, post_mem hW' (fun _ _ _ => (trodAll_cons_mk (shut_bool Tryz.underlying4 _) trodAll_mk0)) (fun sp hsp => ?_) (fun _ => rfl) hg (ok_one (by kernel_rfl) rfl (okWide_bool_mk Tryz.underlying4 _))⟩
  have hall := (trodAll_cons_mk (arg_same (sp := sp) laid (by kernel_rfl) (of_decide_eq_true (by kernel_rfl)) h0 hg (by intro x hx; simp_all) hlt hsp) (trodAll_cons_mk (arg_same (sp := sp) laid (by kernel_rfl) (of_decide_eq_true (by kernel_rfl)) h1 hg (by intro x hx; simp_all) hlt hsp) trodAll_mk0))
  try simp only [List.append_nil] at hall
  try simp only [List.nil_append] at hall
  exact hall
theorem over : Rows.logReadsRow.holds Tryz.pinned (OpenSpec.ofChange Rows.logReadsSpec) :=
  OpenClaim.holds_of_wide 4 Tryz.f4 rfl rfl rfl rfl rfl rfl rfl ⟨rfl, rfl, rfl, rfl, rfl⟩ rfl rfl rfl rfl rfl (by kernel_rfl) Tryz.func4 (by kernel_rfl)
    (of_decide_eq_true (by kernel_rfl)) (by unfold Func.isWrapper; first | (rw [if_pos (by decide +kernel)]; kernel_rfl) | (rw [if_neg (by decide +kernel)]; exact ⟨rfl, rfl⟩))
    (fun os started H enc _ => lifted os started H enc)
theorem proved : Rows.LogReadsSaid := over
#print axioms proved
end Go.Proofs.YtdpmjlbkojhooaaGreat.logReads
