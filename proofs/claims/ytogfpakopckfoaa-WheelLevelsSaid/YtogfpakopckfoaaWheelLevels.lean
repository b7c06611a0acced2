/- For all inputs the statement WheelLevels about wheel returns true, and changes nothing. Conditions: none. -/
import Derived.Test.YtogfpakopckfoaaWhP
import Derived.Test.YtogfpakopckfoaaClass
import Derived.Deep.RegionWith
import Derived.Test.YtogfpakopckfoaaWhO
import Derived.Test.YtogfpakopckfoaaMem
import Derived.ProofKit
import Derived.OpenShut
import Derived.ShutString
import Derived.SizedLaws
namespace Go.Proofs.Ytogfpakopckfoaa.wheelLevels
open Go.ChangeShapes Go.WideShapes Go.ChangeAt Go.RowKit Go.Lib Go.MapKept
open Go.ChangeMaps (open_string shut_string)
set_option linter.unusedVariables false

theorem own : ownKnob Try.prog.godebug = none := by kernel_rfl
theorem laid : laidOutB Try.prog = true := by kernel_rfl

set_option maxRecDepth 100000
open Wl Sp
def cL (j : Nat) : Nat := 97 + j
theorem rest_yes {f : Nat → Int} {q : Nat} {T : Int} (h : T < f q) : rest (tmL cL f (q + 1)) T = rest (tmL cL f q) T ++ [⟨chr (cL q), f q⟩] := by
  unfold rest
  rw [tmL_succ, List.filter_append]
  simp [h]
theorem rest_no {f : Nat → Int} {q : Nat} {T : Int} (h : f q ≤ T) : rest (tmL cL f (q + 1)) T = rest (tmL cL f q) T := by
  unfold rest
  rw [tmL_succ, List.filter_append]
  have : ¬ T < f q := by omega
  simp [this]
theorem rest_le (f : Nat → Int) (q : Nat) (T : Int) : (rest (tmL cL f q) T).length ≤ q := by
  have h : (rest (tmL cL f q) T).length ≤ (tmL cL f q).length := List.length_filter_le _ _
  rwa [tmL_len] at h
set_option maxHeartbeats 16000000 in
theorem walk {WI : Nat → Wh → Sp.Item} (P : Prg WI) (now tz : Int) (A : Option Addr) (n c : Nat) (f : Nat → Int) (w : World) (hw : 0 ≤ now ∧ now < 18446744073709551616) (hto : 0 ≤ tz ∧ tz < 18446744073709551616) (hn : n ≤ maxLen) (hL : CellsIn w A n (fun j => .int .u64 (f j))) (hf : ∀ j, j < n → 0 ≤ f j ∧ f j < 18446744073709551616) :
    Calls Try.prog 8 #[.int .u64 now, .slice A n c, .int .u64 tz] w fun e w' => e = .returned (.bool true) ∧ Below w.heap.size w w' := by
  have HP := Lib.hid P
  have HNW := Lib.hid hw
  have HTO := Lib.hid hto
  have HN := Lib.hid hn
  have HL := Lib.hid hL
  have HF := Lib.hid hf
  obtain ⟨m, em⟩ : ∃ z, min n 26 = z := ⟨_, rfl⟩
  have hm1 : (min (n : Int) 26) = (m : Int) := by omega
  have hmn : m ≤ n ∧ m ≤ 26 := by omega
  have HM := Lib.hid hmn
  clear P hw hto hn hL hf em
  go_enter Try.func8, Try.ntmps8
  go_wp2_with fail
  refine (HP.out.nw now (Sp.Sep.nil (Below.refl _ _)) HNW.out).mono ?_
  rintro e' w1 ⟨g, rfl, s1⟩
  have S1 : Hid (Sp.Sep w w1 [WI g ⟨now, []⟩]) := Lib.hid s1
  clear s1
  go_upto_region 6 with fail
  clear hm1 hmn
  go_loopg [9] m (fun gk s9 wr => ∃ (q : Nat) (s : Wh), q ≤ m ∧ gk = m - q ∧ s9 = .int .i64 (q : Nat) ∧ Hid (SetL now cL f q s) ∧ Hid (Sp.Sep w wr [WI g s]))
  case atStart => exact ⟨0, _, by omega, rfl, rfl, Lib.hid (SetL.start _ _ HNW.out), S1⟩
  case round =>
    obtain ⟨q, s, hq, hgk, rfl, HS, HI⟩ := hrel
    have HGK := Lib.hid hgk
    clear hgk S1
    by_cases hlt : q < m
    · have hli : (q : Int) < (m : Int) := by omega
      have wi : IntKind.i64.wrap ((q : Int) + 1) = (q : Int) + 1 := IntWalk.i64_in _ (by have := HM.out; omega)
      have hqn : q < n := by have := HM.out; omega
      have hqi : (q : Int) < (n : Int) := by omega
      obtain ⟨ga, o, rfl, _, hc⟩ := HL.out (by omega)
      have hcell := (HI.out.below.cell (World.block_lt_of_cell? _ _ (hc q hqn))).trans (hc q hqn)
      have c1 : IntKind.i64.wrap (97 + (q : Int)) = ((97 + q : Nat) : Int) := by rw [show (97 : Int) + (q : Int) = ((97 + q : Nat) : Int) by omega]; exact IntWalk.i64_in _ (by have := HM.out; omega)
      have c2 : IntKind.u8.wrap ((97 + q : Nat) : Int) = ((97 + q : Nat) : Int) := IntWalk.u8_in _ (by have := HM.out; omega)
      obtain ⟨k, ek⟩ : ∃ z, 97 + q = z := ⟨_, rfl⟩
      rw [ek] at c1 c2
      have hk : k < 256 := by have := HM.out; omega
      have hcv : (convert 52 9 (.slice (some ⟨wr.heap.size, 0, none⟩) 1 1)).run Try.prog (wr.alloc (.cells #[.int .u8 (k : Nat)] 5)).drew = .ok (.string (chr k)) (wr.alloc (.cells #[.int .u8 (k : Nat)] 5)).drew := chr_conv _ _ k hk ((Sp.Blk.new wr 5 #[.int .u8 (k : Nat)]).cell 0)
      have hcell2 : (wr.alloc (.cells #[.int .u8 (k : Nat)] 5)).drew.cell? ⟨ga, o + q, none⟩ = some (.int .u64 (f q)) := ((below1 wr (.cells #[.int .u8 (k : Nat)] 5)).cell (World.block_lt_of_cell? _ _ hcell)).trans hcell
      have HST := Lib.hid (HP.out.st (chr k) (f q) ((HI.out.alloc (.cells #[.int .u8 (k : Nat)] 5)).drew) (k := 0) rfl HS.out.g (by rw [HS.out.p.length_eq, tmL_len]; have := HM.out; omega) (HF.out q hqn) (chr_size k))
      clear hc
      go_upto_region 8 with fail
      go_region_with (first | (go_at_call 15; refine HST.out.mono ?_; rintro e' w3 ⟨rfl, h3⟩))
      all_goals
        have HS3 := Lib.hid (HS.out.next (fun j hj => by unfold cL; have := HM.out; omega) (by unfold cL; have := HM.out; omega) (HF.out q hqn) (by have := HM.out; omega))
        have HI3 : Hid (Sp.Sep w w3 [WI g (setW s (chr (cL q)) (f q))]) := Lib.hid (by rw [show cL q = k from ek]; exact h3)
        clear h3 HST hcv hcell hcell2
        go_wp2_with fail
        go_roundg (m - (q + 1))
        case measure => have := HGK.out; omega
        case rel => exact ⟨q + 1, _, by omega, by have := HGK.out; omega, by go_num, HS3, HI3⟩
    · obtain rfl : m = q := by omega
      have HGS := Lib.hid HS.out.g
      go_wp2_with fail
      refine (HP.out.ad tz HI.out (k := 0) rfl HGS.out HTO.out).mono ?_
      rintro e' w4 ⟨A4, p4, rfl, h4⟩
      obtain ⟨T, eT⟩ : ∃ z, max now tz = z := ⟨_, rfl⟩
      have HTM : Hid ((advW s tz).t = T) := Lib.hid (by show max s.t tz = T; rw [HS.out.t, eT])
      have HPR : Hid ((advW s tz).l.Perm (rest (tmL cL f m) T)) := Lib.hid (by
        show (rest s.l (max s.t tz)).Perm _
        rw [HS.out.t, eT]
        exact HS.out.p.filter _)
      have HG2 := Lib.hid (HGS.out.adv HTO.out)
      have HTT : Hid (0 ≤ T ∧ T < 18446744073709551616) := Lib.hid (by have := HNW.out; have := HTO.out; omega)
      have HET := Lib.hid eT
      obtain ⟨s2, es2⟩ : ∃ z, advW s tz = z := ⟨_, rfl⟩
      have S4 : Hid (Sp.Sep w w4 [WI g s2]) := Lib.hid (by rw [← es2]; exact loc_drop (items := [_]) h4)
      rw [es2] at HTM HPR HG2
      clear h4 es2 eT
      obtain ⟨dn, edn⟩ : ∃ z, (dueL s.l (max s.t tz)).length = z := ⟨_, rfl⟩
      rw [edn]
      clear edn HI HS HGS hlt hq
      have S5 := Lib.hid (loc_alloc S4.out 48 (csI (cnI T [])))
      clear S4
      go_upto_region 11 with fail
      change Code.wp _ _ _ _ (w4.alloc (.cells (csI (cnI T [])) 48))
      generalize w4.alloc (.cells (csI (cnI T [])) 48) = w5 at *
      obtain ⟨bw, ebw⟩ : ∃ z, w4.heap.size = z := ⟨_, rfl⟩
      rw [ebw] at S5 ⊢
      clear ebw
      go_upto_region 12 with fail
      go_loopg [11, 12] m (fun gk s11 s12 wr => ∃ (q sm : Nat), q ≤ m ∧ gk = m - q ∧ s11 = .int .i64 (sm : Nat) ∧ s12 = .int .i64 (q : Nat) ∧ Hid ((rest (tmL cL f q) T).length = sm) ∧ Hid (Sp.Sep w wr [WI g s2, locI [(bw, 48, csI (cnI T (rest (tmL cL f q) T)))]]))
      case atStart => exact ⟨0, 0, by omega, rfl, rfl, rfl, Lib.hid rfl, S5⟩
      case round =>
        obtain ⟨q, sm, hq, hgk, rfl, rfl, HSM, HI⟩ := hrel
        have HGK := Lib.hid hgk
        clear hgk S5
        by_cases hlt : q < m
        · have hli : (q : Int) < (m : Int) := by omega
          have wi : IntKind.i64.wrap ((q : Int) + 1) = (q : Int) + 1 := IntWalk.i64_in _ (by have := HM.out; omega)
          have hqn : q < n := by have := HM.out; omega
          have hqi : (q : Int) < (n : Int) := by omega
          obtain ⟨ga, o, rfl, _, hc⟩ := HL.out (by omega)
          have hcell := (HI.out.below.cell (World.block_lt_of_cell? _ _ (hc q hqn))).trans (hc q hqn)
          have I : Below wr.heap.size wr { wr with drawn := wr.drawn + 1 } := (Below.refl _ _).drew
          have hne : Nonempty (In (fun W => Below wr.heap.size wr W)) := ⟨⟨_, I⟩⟩
          have f5 : ∀ jj : In (fun W => Below wr.heap.size wr W), jj.W.cell? ⟨ga, o + q, none⟩ = some (.int .u64 (f q)) := fun jj => (jj.h.cell (World.block_lt_of_cell? _ _ hcell)).trans hcell
          have HNO := Lib.hid (fun (W1 : World) (hi : Below wr.heap.size wr W1) => HP.out.no (HI.out.later hi) (k := 0) rfl HG2.out)
          simp only [HTM.out] at HNO
          clear hc
          by_cases hv : f q ≤ T
          · have HSM2 : Hid ((rest (tmL cL f (q + 1)) T).length = sm) := Lib.hid (by rw [rest_no hv]; exact HSM.out)
            have HRN := Lib.hid (rest_no hv)
            go_upto_region 14 with fail
            refine region_class (fun W => Below wr.heap.size wr W) (by kernel_rfl) (by kernel_rfl) I ?_
            repeat (go_big_quiet_step (first
              | (go_at_call 18; with_reducible exact class_call _ (fun hi => (HNO.out _ hi).mono fun e w' ⟨he, hb⟩ => ⟨he, hi.trans (hb.mono hi.size)⟩))))
            refine wpQuiet_nil ?_
            rintro _ ⟨jj, rfl⟩
            have S6 : Hid (Sp.Sep w jj.W [WI g s2, locI [(bw, 48, csI (cnI T (rest (tmL cL f (q + 1)) T)))]]) := Lib.hid (by rw [HRN.out]; exact HI.out.later jj.h)
            clear I hne f5 HNO hcell
            generalize jj.W = w6 at *
            clear jj
            go_wp2_with fail
            go_roundg (m - (q + 1))
            case measure => have := HGK.out; omega
            case rel => exact ⟨q + 1, sm, by omega, by have := HGK.out; omega, rfl, by go_num, HSM2, S6⟩
          · have hv2 : decide (f q ≤ T) = false := decide_eq_false hv
            have hv3 : T < f q := by omega
            have HRY := Lib.hid (rest_yes hv3)
            have HSM2 : Hid ((rest (tmL cL f (q + 1)) T).length = sm + 1) := Lib.hid (by rw [HRY.out, List.length_append, HSM.out]; rfl)
            have HFQ := Lib.hid (HF.out q hqn)
            go_upto_region 14 with fail
            refine region_class (fun W => Below wr.heap.size wr W) (by kernel_rfl) (by kernel_rfl) I ?_
            repeat (go_big_quiet_step (first
              | (go_at_call 18; with_reducible exact class_call _ (fun hi => (HNO.out _ hi).mono fun e w' ⟨he, hb⟩ => ⟨he, hi.trans (hb.mono hi.size)⟩))))
            refine wpQuiet_nil ?_
            rintro _ ⟨jj, rfl⟩
            have S6 := Lib.hid (HI.out.later jj.h)
            have hcell6 := (jj.h.cell (World.block_lt_of_cell? _ _ hcell)).trans hcell
            clear I hne f5 HNO hcell HI hv2
            generalize jj.W = w6 at *
            clear jj
            have I : Below w6.heap.size w6 { w6 with drawn := w6.drawn + 1 } := (Below.refl _ _).drew
            have hne : Nonempty (In (fun W => Below w6.heap.size w6 W)) := ⟨⟨_, I⟩⟩
            have f5 : ∀ jj : In (fun W => Below w6.heap.size w6 W), jj.W.cell? ⟨ga, o + q, none⟩ = some (.int .u64 (f q)) := fun jj => (jj.h.cell (World.block_lt_of_cell? _ _ hcell6)).trans hcell6
            have HNO := Lib.hid (fun (W1 : World) (hi : Below w6.heap.size w6 W1) => HP.out.no (S6.out.later hi) (k := 0) rfl HG2.out)
            simp only [HTM.out] at HNO
            obtain ⟨lv, hlv⟩ : ∃ z, lvl T (f q) = z := ⟨_, rfl⟩
            obtain ⟨sl, hsl⟩ : ∃ z, (place T.toNat (f q).toNat).2 = z := ⟨_, rfl⟩
            have hl4 : lv ≤ 4 := by rw [← hlv]; exact (place_lt _ _).1
            have HPL : Hid (∀ W, Calls Try.prog 13 #[.int .u64 T, .int .u64 (f q)] W fun e w' => e = .returned (.tuple #[.int .i64 (lv : Nat), .int .i64 (sl : Nat)]) ∧ Below W.heap.size W w') := Lib.hid (fun W => by
              have h1 := HP.out.pl T.toNat (f q).toNat W (by have := HTT.out; omega) (by have := HFQ.out; omega)
              rw [Int.toNat_of_nonneg HTT.out.1, Int.toNat_of_nonneg HFQ.out.1, hsl] at h1
              rw [← hlv]
              exact h1)
            have HLV := Lib.hid hlv
            clear hlv hsl hv hv3
            go_upto_region 15 with fail
            refine region_class (fun W => Below w6.heap.size w6 W) (by kernel_rfl) (by kernel_rfl) I ?_
            repeat (go_big_quiet_step (first
              | (go_at_call 18; with_reducible exact class_call _ (fun hi => (HNO.out _ hi).mono fun e w' ⟨he, hb⟩ => ⟨he, hi.trans (hb.mono hi.size)⟩))
              | (go_at_call 13; with_reducible exact class_call _ (fun hi => (HPL.out _).mono fun e w' ⟨he, hb⟩ => ⟨he, hi.trans (hb.mono hi.size)⟩))))
            refine wpQuiet_nil ?_
            rintro _ ⟨jj, rfl⟩
            have S7 := S6.out.later jj.h
            clear I hne f5 HNO HPL hcell6 S6
            generalize jj.W = w7 at *
            clear jj
            have hbk := loc_blk S7 (k := 1) rfl
            obtain ⟨cc, hcc⟩ : ∃ z, cnI T (rest (tmL cL f q) T) = z := ⟨_, rfl⟩
            have hcb : 0 ≤ cc lv ∧ cc lv ≤ 26 := by
              rw [← hcc]
              unfold cnI
              have h1 := cnt_le T (rest (tmL cL f q) T) lv
              have h2 := rest_le f q T
              have := HM.out
              omega
            have hsb : sm ≤ 26 := by
              rw [← HSM.out]
              have h2 := rest_le f q T
              have := HM.out
              omega
            rw [hcc] at S7 hbk
            have x0 : w7.cell? ⟨bw, lv, none⟩ = some (.int .i64 (cc lv)) := (hbk.cell lv).trans (csI_get cc (by omega))
            have x1 : w7.frozen? ⟨bw, lv, none⟩ = false := hbk.frozen lv
            have wc : IntKind.i64.wrap (cc lv + 1) = cc lv + 1 := IntWalk.i64_in _ (by omega)
            have ws : IntKind.i64.wrap ((sm : Int) + 1) = ((sm + 1 : Nat) : Int) := by rw [show (sm : Int) + 1 = ((sm + 1 : Nat) : Int) by omega]; exact IntWalk.i64_in _ (by omega)
            have l5 : (lv : Int) < 5 := by omega
            have l7 : decide ((4 : Int) < (lv : Int)) = false := decide_eq_false (by omega)
            have l8 : decide ((lv : Int) < 0) = false := decide_eq_false (by omega)
            have l9 : ¬ ((lv : Int) < 0) := by omega
            have l10 : ¬ ((4 : Int) < (lv : Int)) := by omega
            have l6 : lv < 5 := by omega
            have S8 : Hid (Sp.Sep w (w7.setCell ⟨bw, lv, none⟩ (.int .i64 (cc lv + 1))) [WI g s2, locI [(bw, 48, csI (cnI T (rest (tmL cL f (q + 1)) T)))]]) := Lib.hid (by
              have h1 := loc_cell S7 (k := 1) rfl lv (.int .i64 (cc lv + 1))
              rw [csI_set cc l6] at h1
              have h2 := cnI_snoc T (rest (tmL cL f q) T) ⟨chr (cL q), f q⟩
              have h3 : lvl T (Tm.mk (chr (cL q)) (f q)).d = lv := HLV.out
              rw [h3, hcc] at h2
              rw [HRY.out, ← h2]
              exact h1)
            clear hbk hcc S7 hcb hsb
            go_wp2_with fail
            go_roundg (m - (q + 1))
            case measure => have := HGK.out; omega
            case rel => exact ⟨q + 1, sm + 1, by omega, by have := HGK.out; omega, rfl, by go_num, HSM2, S8⟩
        · obtain rfl : m = q := by omega
          obtain ⟨c, hc⟩ : ∃ z, cnI T (rest (tmL cL f m) T) = z := ⟨_, rfl⟩
          have hcn : cnI s2.t s2.l = c := by
            rw [← hc, HTM.out]
            funext k
            unfold cnI
            rw [cnt_perm HPR.out]
          have hln : s2.l.length = sm := by rw [HPR.out.length_eq, HSM.out]
          rw [hc] at HI
          have I : Below wr.heap.size wr { wr with drawn := wr.drawn + 1 } := (Below.refl _ _).drew
          have hne : Nonempty (In (fun W => Below wr.heap.size wr W)) := ⟨⟨_, I⟩⟩
          have hbk := loc_blk HI.out (k := 1) rfl
          have x0 : wr.cell? ⟨bw, 0, none⟩ = some (.int .i64 (c 0)) := hbk.cell 0
          have x1 : wr.cell? ⟨bw, 1, none⟩ = some (.int .i64 (c 1)) := hbk.cell 1
          have x2 : wr.cell? ⟨bw, 2, none⟩ = some (.int .i64 (c 2)) := hbk.cell 2
          have x3 : wr.cell? ⟨bw, 3, none⟩ = some (.int .i64 (c 3)) := hbk.cell 3
          have x4 : wr.cell? ⟨bw, 4, none⟩ = some (.int .i64 (c 4)) := hbk.cell 4
          have f0 : ∀ jj : In (fun W => Below wr.heap.size wr W), jj.W.cell? ⟨bw, 0, none⟩ = some (.int .i64 (c 0)) := fun jj => (jj.h.cell (World.block_lt_of_cell? _ _ x0)).trans x0
          have f1 : ∀ jj : In (fun W => Below wr.heap.size wr W), jj.W.cell? ⟨bw, 1, none⟩ = some (.int .i64 (c 1)) := fun jj => (jj.h.cell (World.block_lt_of_cell? _ _ x1)).trans x1
          have f2 : ∀ jj : In (fun W => Below wr.heap.size wr W), jj.W.cell? ⟨bw, 2, none⟩ = some (.int .i64 (c 2)) := fun jj => (jj.h.cell (World.block_lt_of_cell? _ _ x2)).trans x2
          have f3 : ∀ jj : In (fun W => Below wr.heap.size wr W), jj.W.cell? ⟨bw, 3, none⟩ = some (.int .i64 (c 3)) := fun jj => (jj.h.cell (World.block_lt_of_cell? _ _ x3)).trans x3
          have f4 : ∀ jj : In (fun W => Below wr.heap.size wr W), jj.W.cell? ⟨bw, 4, none⟩ = some (.int .i64 (c 4)) := fun jj => (jj.h.cell (World.block_lt_of_cell? _ _ x4)).trans x4
          have HNO := Lib.hid (fun (W1 : World) (hi : Below wr.heap.size wr W1) => HP.out.no (HI.out.later hi) (k := 0) rfl HG2.out)
          have HLN := Lib.hid (fun (W1 : World) (hi : Below wr.heap.size wr W1) => HP.out.ln (HI.out.later hi) (k := 0) rfl HG2.out)
          have HLV : Hid (∀ (W1 : World) (hi : Below wr.heap.size wr W1), Calls Try.prog 21 #[.pointer (some ⟨g, 0, none⟩)] W1 fun e w' => e = .returned (.agg #[.int .i64 (c 0), .int .i64 (c 1), .int .i64 (c 2), .int .i64 (c 3), .int .i64 (c 4)]) ∧ Below W1.heap.size W1 w') := Lib.hid (fun W1 hi => by
            have h1 := HP.out.lv (HI.out.later hi) (k := 0) rfl HG2.out
            rw [hcn] at h1
            exact h1)
          have HFX := Lib.hid (fun (W1 : World) => fixed_any HP.out W1)
          simp only [HTM.out] at HNO
          simp only [hln] at HLN
          have hq5 : ∀ W, (binOp BinOp.eql 48 (.agg #[.int .i64 (c 0), .int .i64 (c 1), .int .i64 (c 2), .int .i64 (c 3), .int .i64 (c 4)]) (.agg #[.int .i64 (c 0), .int .i64 (c 1), .int .i64 (c 2), .int .i64 (c 3), .int .i64 (c 4)])).run Try.prog W = .ok (.bool true) W := fun W => eql5 c W
          have hmx : ∀ W, (Builtin.max_ #[22, 22] 22 #[.int .u64 now, .int .u64 tz]).run Try.prog W = .ok (.int .u64 T) W := fun W => by
            rw [run_max_int2]
            have : (if tz > now then tz else now) = T := by
              rw [← HET.out]
              split <;> omega
            rw [this]
          have qt : (T == T) = true := by simp
          have qs : ((sm : Int) == (sm : Int)) = true := by simp
          clear hbk x0 x1 x2 x3 x4 hcn hln hc hlt hq
          go_upto_region 20 with fail
          refine region_class (fun W => Below wr.heap.size wr W) (by kernel_rfl) (by kernel_rfl) I ?_
          repeat (go_big_quiet_step (first
            | (go_at_call 18; with_reducible exact class_call _ (fun hi => (HNO.out _ hi).mono fun e w' ⟨he, hb⟩ => ⟨he, hi.trans (hb.mono hi.size)⟩))
            | (go_at_call 20; with_reducible exact class_call _ (fun hi => (HLN.out _ hi).mono fun e w' ⟨he, hb⟩ => ⟨he, hi.trans (hb.mono hi.size)⟩))
            | (go_at_call 21; with_reducible exact class_call _ (fun hi => (HLV.out _ hi).mono fun e w' ⟨he, hb⟩ => ⟨he, hi.trans (hb.mono hi.size)⟩))
            | (go_at_call 12; with_reducible exact class_call _ (fun hi => (HFX.out _).mono fun e w' ⟨he, hb⟩ => ⟨he, hi.trans (hb.mono hi.size)⟩))))
          refine wpQuiet_nil ?_
          rintro _ ⟨jj, rfl⟩
          have S9 := Lib.hid (HI.out.later jj.h)
          clear I hne f0 f1 f2 f3 f4 HNO HLN HLV HFX HI
          generalize jj.W = w9 at *
          clear jj
          go_wp2_with fail
          go_ret
          exact ⟨rfl, S9.out.below⟩

set_option maxRecDepth 100000 in
theorem lifted {WI : Nat → Wh → Sp.Item} (P : Prg WI) (os : Os) (started : os.Started) (H : Type) (enc : TypeId × Value → H) :
    ReturnsInHanded {} Try.checked os 8 .any (Rows.wheelLevelsSpec.pre6 enc Try.prog Try.f8 Rows.wheelLevelsRow.domain false) (Rows.wheelLevelsSpec.post enc Try.prog Try.f8 false true false false) := by
  refine returnsInHanded_of_change (C := Try.checked) own started (by kernel_rfl) Try.func8
    (ChangeSpec.witness6 (enc := enc) (C := Try.checked) false ⟨#[], #[.int .u64 0, .slice none 0 0, .int .u64 0], []⟩ 8 (by kernel_rfl) (by kernel_rfl) (by kernel_rfl) (by kernel_rfl)) ?_
  intro W base args ds gs before hval0 hW hcnd _
  have hval : ∀ (j : Nat) t v, Try.f8.params[j]? = some t → args[j]? = some v → Value.okWide Try.prog W .any base t v := hval0
  have hW' := hW
  obtain ⟨p, q, hA0, hV, rfl, hfz, hnd⟩ := hW
  have hA : DataW.TrodAll enc Try.prog W 0 (fun _ => true) true Try.f8.params.toList args.toList ds p := hA0
  rw [Try.params8] at hA hval
  obtain ⟨v0, vs0, d0, ds0, p0, q0, hargs, rfl, rfl, h0, r0⟩ := trodAll_cons hA
  obtain ⟨v1, vs1, d1, ds1, p1, q1, rfl, rfl, rfl, h1, r1⟩ := trodAll_cons r0
  obtain ⟨v2, vs2, d2, ds2, p2, q2, rfl, rfl, rfl, h2, r2⟩ := trodAll_cons r1
  obtain ⟨rfl, rfl, rfl⟩ := trodAll_nil r2
  obtain rfl : args = #[v0, v1, v2] := by cases args; simp_all
  obtain ⟨rfl, rfl⟩ := trodVars_none hV
  obtain ⟨a0, rfl, rfl, rfl, w0⟩ := open_int Try.underlying22 (hval 0 22 v0 rfl rfl) h0
  obtain ⟨A1, n1, c1, f1, rfl, hn1, hc1, hw1⟩ := open_nums Try.underlying39 Try.underlying22 (by kernel_rfl) (hval 1 39 v1 rfl rfl) h1
  obtain ⟨a2, rfl, rfl, rfl, w2⟩ := open_int Try.underlying22 (hval 2 22 v2 rfl rfl) h2
  clear hA0 hval0
  try simp only [List.append_nil] at hW'
  try simp only [List.nil_append] at hW'
  have hlt := fun x hx => hW'.lt x hx
  refine (walk P a0 a2 A1 n1 c1 f1 W (u64_of w0) (u64_of w2) hn1 hc1 (fun j hj => u64_of (hw1 j hj))).mono fun e W' ⟨he, hg⟩ => ?_
  subst he
  refine ⟨_, rfl, post_mem hW' (fun _ _ _ => (trodAll_cons_mk (shut_bool Try.underlying4 _) trodAll_mk0)) (fun sp hsp => ?_) (fun _ => rfl) hg (ok_one (by kernel_rfl) rfl (okWide_bool_mk Try.underlying4 _))⟩
  have hall := (trodAll_cons_mk (arg_same (sp := sp) laid (by kernel_rfl) (of_decide_eq_true (by kernel_rfl)) h0 hg (by intro x hx; simp_all) hlt hsp) (trodAll_cons_mk (arg_same (sp := sp) laid (by kernel_rfl) (of_decide_eq_true (by kernel_rfl)) h1 hg (by intro x hx; simp_all) hlt hsp) (trodAll_cons_mk (arg_same (sp := sp) laid (by kernel_rfl) (of_decide_eq_true (by kernel_rfl)) h2 hg (by intro x hx; simp_all) hlt hsp) trodAll_mk0)))
  try simp only [List.append_nil] at hall
  try simp only [List.nil_append] at hall
  exact hall

theorem over {WI : Nat → Wh → Sp.Item} (P : Prg WI) : Rows.wheelLevelsRow.holds Try.pinned (OpenSpec.ofChange Rows.wheelLevelsSpec) :=
  OpenClaim.holds_of_wide 8 Try.f8 rfl rfl rfl rfl rfl rfl rfl ⟨rfl, rfl, rfl, rfl, rfl⟩ rfl rfl rfl rfl rfl (by kernel_rfl) Try.func8 (by kernel_rfl)
    (of_decide_eq_true (by kernel_rfl)) (by unfold Func.isWrapper; first | (rw [if_pos (by decide +kernel)]; kernel_rfl) | (rw [if_neg (by decide +kernel)]; exact ⟨rfl, rfl⟩))
    (fun os started H enc _ => lifted P os started H enc)

end Go.Proofs.Ytogfpakopckfoaa.wheelLevels
