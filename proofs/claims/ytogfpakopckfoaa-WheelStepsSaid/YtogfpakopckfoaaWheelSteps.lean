/- For all inputs the statement WheelSteps about wheel returns true, and changes nothing. Conditions: none. -/
import Derived.Test.YtogfpakopckfoaaWhP
import Derived.Deep.RegionWith
import Derived.BigQuiet
import Derived.BigRegion
import Derived.Deep.CutBlock
import Derived.Deep.RegionHeld3
import Derived.Test.YtogfpakopckfoaaWhO
import Derived.Test.YtogfpakopckfoaaMem
import Derived.ProofKit
import Derived.OpenShut
import Derived.ShutString
import Derived.SizedLaws
namespace Go.Proofs.Ytogfpakopckfoaa.wheelSteps
open Go.ChangeShapes Go.WideShapes Go.ChangeAt Go.RowKit Go.Lib Go.MapKept
open Go.ChangeMaps (open_string shut_string)
set_option linter.unusedVariables false

theorem own : ownKnob Try.prog.godebug = none := by kernel_rfl
theorem laid : laidOutB Try.prog = true := by kernel_rfl

set_option maxRecDepth 100000
open Wl Sp
/-- So much has been told by one of two wheels that were alike (b: there was a step). -/
structure Told (s0 : Wh) (b : Prop) (E : Int) (s : Wh) (T : List Tm) : Prop where
  g : Wl.Good s
  t : s.t = E
  j : T ++ s.l = s0.l
  le : ∀ x ∈ T, x.d ≤ E
  gt : b → ∀ x ∈ s.l, E < x.d
theorem Told.start {s0 : Wh} (g : Wl.Good s0) (h : s0.t = 0) : Told s0 (0 < 0) 0 s0 [] := ⟨g, h, rfl, (fun x h => by cases h), (fun h => by omega)⟩
theorem Told.next {s0 s : Wh} {b : Prop} {E : Int} {T : List Tm} (h : Told s0 b E s T) {n : Int} (hn : 0 ≤ n ∧ n < 18446744073709551616) (b' : Prop) : Told s0 b' (max E n) (advW s n) (T ++ dueL s.l (max E n)) :=
  ⟨h.g.adv hn, by show max s.t n = _; rw [h.t], by
    show (T ++ dueL s.l (max E n)) ++ rest s.l (max s.t n) = s0.l
    rw [h.t, List.append_assoc, due_join h.g.ok, h.j], fun x hx => by
    rcases List.mem_append.1 hx with h1 | h1
    · have := h.le x h1; omega
    · exact (due_mem.1 h1).2, fun _ x hx => by
    have h2 : x ∈ rest s.l (max s.t n) := hx
    rw [h.t] at h2
    exact (rest_mem.1 h2).2⟩
theorem Told.imp {s0 s : Wh} {b b' : Prop} {E : Int} {T : List Tm} (h : Told s0 b E s T) (hb : b' → b) : Told s0 b' E s T := ⟨h.g, h.t, h.j, h.le, fun x => h.gt (hb x)⟩
theorem Told.len {s0 s : Wh} {b : Prop} {E : Int} {T : List Tm} (h : Told s0 b E s T) : T.length + s.l.length = s0.l.length := by rw [← h.j, List.length_append]
/-- The other wheel, told at once. -/
theorem Told.once {s0 s : Wh} {b : Prop} {E : Int} {T : List Tm} (h : Told s0 b E s T) (hb : b) (h0 : s0.t = 0) : dueL s0.l E = T ∧ advW s0 E = s := by
  obtain ⟨h1, h2⟩ := due_parts h.le (h.gt hb)
  rw [h.j] at h1 h2
  refine ⟨h1, ?_⟩
  have hm : max s0.t E = E := by have := h.g.t; have := h.t; omega
  unfold advW
  rw [hm, h2, ← h.t]
set_option maxHeartbeats 16000000 in
theorem walk {WI : Nat → Wh → Sp.Item} (P : Prg WI) (A : Option Addr) (n c : Nat) (L : List Tm) (B : Option Addr) (ns cs : Nat) (f : Nat → Int) (w : World) (hn : n ≤ maxLen) (hL : TR w A n L) (ho : ∀ x ∈ L, 0 ≤ x.d ∧ x.d < 18446744073709551616) (hns : ns ≤ maxLen) (hB : CellsIn w B ns (fun j => .int .u64 (f j))) (hf : ∀ j, j < ns → 0 ≤ f j ∧ f j < 18446744073709551616) :
    Calls Try.prog 5 #[.slice A n c, .slice B ns cs] w fun e w' => e = .returned (.bool true) ∧ Below w.heap.size w w' := by
  have HP := Lib.hid P
  have HN := Lib.hid hn
  have HL := Lib.hid hL
  have HO := Lib.hid ho
  have HNS := Lib.hid hns
  have HB := Lib.hid hB
  have HF := Lib.hid hf
  have H0 : Hid (0 ≤ (0 : Int) ∧ (0 : Int) < 18446744073709551616) := Lib.hid (by decide)
  clear P hn hL ho hns hB hf
  go_enter Try.func5, Try.ntmps5
  go_wp2_with fail
  refine (HP.out.nw 0 (Sp.Sep.nil (Below.refl _ _)) H0.out).mono ?_
  rintro e' w1 ⟨ga, rfl, s1⟩
  have S1 := Lib.hid s1
  clear s1
  go_wp2_with fail
  refine (HP.out.nw 0 S1.out H0.out).mono ?_
  rintro e' w2 ⟨gb, rfl, s2⟩
  have S2 : Hid (Sp.Sep w w2 [WI ga ⟨0, []⟩, WI gb ⟨0, []⟩]) := Lib.hid s2
  clear s2 S1
  go_upto_block 0 with fail
  go_cut [7, 8] from 21 to 60 (fun s7 s8 wx => ∃ s0 : Wh, Hid (Wl.Good s0 ∧ s0.t = 0 ∧ s0.l.length ≤ 30) ∧ Hid (Sp.Sep w wx [WI ga s0, WI gb s0]))
  case first =>
    go_wp2_with fail
    go_loopg [7, 8] n (fun gk s7 s8 wr => ∃ (q : Nat) (s : Wh), q ≤ n ∧ q ≤ 30 ∧ gk = n - q ∧ s7 = .int .i64 (q : Nat) ∧ Hid (Wl.Good s ∧ s.t = 0 ∧ s.l.length ≤ q) ∧ Hid (Sp.Sep w wr [WI ga s, WI gb s]))
    case atStart => exact ⟨0, _, by omega, by omega, rfl, rfl, Lib.hid ⟨Wl.Good.new H0.out, rfl, Nat.le_refl _⟩, S2⟩
    case round =>
      obtain ⟨q, s, hq, hq3, hgk, rfl, HG, HI⟩ := hrel
      have HGK := Lib.hid hgk
      clear hgk S2
      by_cases hlt : q < n
      · have hli : (q : Int) < (n : Int) := by omega
        by_cases h6 : q < 30
        · have hl6 : (q : Int) < 30 := by omega
          obtain ⟨x, hx⟩ : ∃ x, L[q]? = some x := ⟨_, List.getElem?_eq_getElem (by rw [← HL.out.len]; exact hlt)⟩
          obtain ⟨g1, o, rfl, hc⟩ := HL.out.c (by omega)
          have y0 := (hc q x hx).1
          have y1 := (hc q x hx).2
          have HY1 := Lib.hid y1
          have x0 := (HI.out.below.cell (World.block_lt_of_cell? _ _ y0)).trans y0
          have HXO := Lib.hid (HO.out x (List.mem_of_getElem? hx))
          have wi : IntKind.i64.wrap ((q : Int) + 1) = (q : Int) + 1 := IntWalk.i64_in _ (by omega)
          clear y0 y1 hc hx
          go_upto_region 7 with fail
          go_cut [8] from 21 to 60 (fun s8 wx => ∃ S : ByteArray, s8 = .string S ∧ S.size ≤ 20 ∧ Hid (Below wr.heap.size wr wx))
          case first =>
            go_region
            all_goals
              go_wp2_with fail
              go_meet
              exact ⟨_, rfl, by rw [ByteArray.size_extract]; omega, Lib.hid (below_drewN (Below.refl _ _) _)⟩
          case rest =>
            obtain ⟨S, rfl, hS, HBW⟩ := hcut
            have SI := HI.out.later HBW.out
            obtain ⟨r, hr⟩ : ∃ z, (find s.l S.toList).isSome = z := ⟨_, rfl⟩
            have qr : (r != r) = false := by cases r <;> rfl
            have HSA : Hid (Calls Try.prog 15 #[.pointer (some ⟨ga, 0, none⟩), .string S, .int .u64 x.d] wc.drew fun e w' => e = .returned (.bool r) ∧ Sp.Sep w w' [WI ga (setW s S x.d), WI gb s]) := Lib.hid (by
              have h := HP.out.st S x.d SI.drew (k := 0) rfl HG.out.1 (by have := HG.out.2.2; omega) HXO.out (by omega)
              rw [hr] at h
              exact h)
            have HSB : Hid (∀ v, Sp.Sep w v [WI ga (setW s S x.d), WI gb s] → Calls Try.prog 15 #[.pointer (some ⟨gb, 0, none⟩), .string S, .int .u64 x.d] v fun e w' => e = .returned (.bool r) ∧ Sp.Sep w w' [WI ga (setW s S x.d), WI gb (setW s S x.d)]) := Lib.hid (fun v hv => by
              have h := HP.out.st S x.d hv (k := 1) rfl HG.out.1 (by have := HG.out.2.2; omega) HXO.out (by omega)
              rw [hr] at h
              exact h)
            have HG3 : Hid (Wl.Good (setW s S x.d) ∧ (setW s S x.d).t = 0 ∧ (setW s S x.d).l.length ≤ q + 1) := Lib.hid ⟨HG.out.1.set HXO.out (by omega) (by have := HG.out.2.2; omega), HG.out.2.1, by
              show (ins _ (rem s.l _)).length ≤ q + 1
              rw [ins_len]
              have : (rem s.l S.toList).length ≤ s.l.length := List.length_filter_le _ _
              have := HG.out.2.2
              omega⟩
            have z1 : wc.drew.cell? ⟨g1, o + q * 2 + 1, none⟩ = some (.int .u64 x.d) := (SI.below.cell (World.block_lt_of_cell? _ _ HY1.out)).trans HY1.out
            clear x0 hr SI
            go_upto_region 8 with fail
            go_region_held3 (fun v => v.cell? ⟨g1, o + q * 2 + 1, none⟩ = some (.int .u64 x.d)) (first | exact z1 | exact z4 | exact z3) (first
              | (go_at_call 15; (with_reducible refine (HSB.out _ h3).mono ?_); rintro e' w4 ⟨rfl, h4⟩; have z4 := (h4.below.cell (World.block_lt_of_cell? _ _ HY1.out)).trans HY1.out)
              | (go_at_call 15; (with_reducible refine HSA.out.mono ?_); rintro e' w3 ⟨rfl, h3⟩; have z3 := (h3.below.cell (World.block_lt_of_cell? _ _ HY1.out)).trans HY1.out))
            all_goals
              have S4 := Lib.hid h4
              clear h3 h4 z1 z3 z4 HSA HSB
              go_wp2_with fail
              go_roundg (n - (q + 1))
              case measure => have := HGK.out; omega
              case rel => exact ⟨q + 1, _, by omega, by omega, by have := HGK.out; omega, by go_num, HG3, S4⟩
        · have hl6 : ¬ ((q : Int) < 30) := by omega
          go_wp2_with fail
          go_meet
          exact ⟨s, Lib.hid ⟨HG.out.1, HG.out.2.1, by have := HG.out.2.2; omega⟩, HI⟩
      · have hli : ¬ ((q : Int) < (n : Int)) := by omega
        go_wp2_with fail
        go_meet
        exact ⟨s, Lib.hid ⟨HG.out.1, HG.out.2.1, by have := HG.out.2.2; omega⟩, HI⟩
  case rest =>
    obtain ⟨s0, HG0, HS0⟩ := hcut
    clear S2
    have S3 : Hid (Sp.Sep w (wc.alloc (.cells #[] 57)) [WI ga s0, WI gb s0, rowS 57 2 (.slice (some ⟨wc.heap.size, 0, none⟩) 0 0) 0 []]) := Lib.hid (rows_lit HS0.out 57 2)
    clear HS0
    go_upto_region 11 with fail
    generalize wc.alloc (.cells #[] 57) = wd at *
    obtain ⟨g0, eg0⟩ : ∃ z, wc.heap.size = z := ⟨_, rfl⟩
    rw [eg0] at S3 ⊢
    clear eg0
    go_upto_block 2 with fail
    go_cut [9, 10, 11] from 62 to 90 (fun s9 s10 s11 wx => ∃ (g' k p : Nat) (E : Int) (s : Wh) (T : List Tm), s9 = .slice (some ⟨g', 0, none⟩) k p ∧ s10 = .int .u64 E ∧ Hid (Told s0 (0 < ns) E s T) ∧ Hid (k = T.length) ∧ Hid (Sp.Sep w wx [WI ga s, WI gb s0, rowS 57 2 (.slice (some ⟨g', 0, none⟩) k p) k (T.flatMap tmC)]))
    case first =>
      go_wp2_with fail
      go_loopg [9, 10, 11] ns (fun gk s9 s10 s11 wr => ∃ (q g' k p : Nat) (E : Int) (s : Wh) (T : List Tm), q ≤ ns ∧ q ≤ 20 ∧ gk = ns - q ∧ s9 = .slice (some ⟨g', 0, none⟩) k p ∧ s10 = .int .u64 E ∧ s11 = .int .i64 (q : Nat) ∧ Hid (Told s0 (0 < q) E s T) ∧ Hid (k = T.length) ∧ Hid (Sp.Sep w wr [WI ga s, WI gb s0, rowS 57 2 (.slice (some ⟨g', 0, none⟩) k p) k (T.flatMap tmC)]))
      case atStart => exact ⟨0, g0, 0, 0, 0, s0, [], by omega, by omega, rfl, rfl, rfl, rfl, Lib.hid (Told.start HG0.out.1 HG0.out.2.1), Lib.hid rfl, S3⟩
      case round =>
        obtain ⟨q, g', k, p, E, s, T, hq, hq2, hgk, rfl, rfl, rfl, HT, HK, HI⟩ := hrel
        have HGK := Lib.hid hgk
        clear hgk S3
        by_cases hlt : q < ns
        · have hli : (q : Int) < (ns : Int) := by omega
          by_cases h6 : q < 20
          · have hl6 : (q : Int) < 20 := by omega
            have wi : IntKind.i64.wrap ((q : Int) + 1) = (q : Int) + 1 := IntWalk.i64_in _ (by omega)
            obtain ⟨g1, o, rfl, _, hc⟩ := HB.out (by omega)
            have x0 : wr.cell? ⟨g1, o + q, none⟩ = some (.int .u64 (f q)) := (HI.out.below.cell (World.block_lt_of_cell? _ _ (hc q hlt))).trans (hc q hlt)
            have HFQ := Lib.hid (HF.out q hlt)
            obtain ⟨fq, efq⟩ : ∃ z, f q = z := ⟨_, rfl⟩
            rw [efq] at x0 HFQ
            obtain ⟨E', eE⟩ : ∃ z, max E fq = z := ⟨_, rfl⟩
            have HT2 := Lib.hid (HT.out.next HFQ.out (0 < q + 1))
            have hmx : ∀ W, (Builtin.max_ #[22, 22] 22 #[.int .u64 E, .int .u64 fq]).run Try.prog W = .ok (.int .u64 E') W := fun W => by
              rw [run_max_int2]
              have : (if fq > E then fq else E) = E' := by
                rw [← eE]
                split <;> omega
              rw [this]
            have hst : max s.t fq = E' := by rw [HT.out.t, eE]
            rw [eE] at HT2
            have HST := Lib.hid hst
            have HGS := Lib.hid HT.out.g
            have HLE : Hid (T.length + (dueL s.l E').length ≤ 30) := Lib.hid (by
              have h1 := HT2.out.len
              rw [List.length_append] at h1
              have := HG0.out.2.2
              omega)
            clear hc efq eE hst
            go_upto_region 15 with fail
            clear hmx
            go_wp2_with fail
            refine (HP.out.ad fq HI.out (k := 0) rfl HGS.out HFQ.out).mono ?_
            rintro e' w4 ⟨A4, p4, rfl, h4⟩
            rw [HST.out] at h4
            rw [HST.out]
            obtain ⟨D, eD⟩ : ∃ z, dueL s.l E' = z := ⟨_, rfl⟩
            obtain ⟨s', es⟩ : ∃ z, advW s fq = z := ⟨_, rfl⟩
            rw [eD] at HT2 HLE
            rw [es] at HT2
            rw [eD, es] at h4
            rw [eD]
            obtain ⟨d, ed⟩ : ∃ z, D.length = z := ⟨_, rfl⟩
            have HDD := Lib.hid ed
            rw [ed] at h4 HLE ⊢
            have S4 : Hid (Sp.Sep w w4 [WI ga s', WI gb s0, rowS 57 2 (.slice (some ⟨g', 0, none⟩) k p) k (T.flatMap tmC), trI A4 d D]) := Lib.hid h4
            clear h4 eD es ed HI x0 HST
            go_wp2_with fail
            refine (timers_any (tr_at S4.out (k := 3) rfl) (by have := HLE.out; omega)).mono ?_
            rintro e' w5 ⟨A5, p5, rfl, r5, hb5⟩
            have S5 : Sp.Sep w w5 [WI ga s', WI gb s0, rowS 57 2 (.slice (some ⟨g', 0, none⟩) k p) k (T.flatMap tmC), trI A4 d D] := S4.out.later hb5
            have hq1 : k + d < 1000 := by have := HLE.out; have := HK.out; omega
            clear S4 hb5
            go_upto_region 16 with (refine wp_append_t rfl (.tmp 78) (.tmp 85) rfl rfl A5 d p5 rfl S5 2 rfl r5 hq1 ?_; intro g2 p2 v2 h2; have H2 := Lib.hid h2; clear h2)
            have S6 : Hid (Sp.Sep w v2 [WI ga s', WI gb s0, rowS 57 2 (.slice (some ⟨g2, 0, none⟩) (k + d) p2) (k + d) ((T ++ D).flatMap tmC)]) := Lib.hid (by
              rw [List.flatMap_append]
              exact loc_drop (items := [_, _, _]) H2.out)
            have HK2 : Hid (k + d = (T ++ D).length) := Lib.hid (by rw [List.length_append, HK.out, HDD.out])
            have HGN := Lib.hid HT2.out.g
            have qe : (E' != E') = false := by simp
            clear H2 S5 r5 hq1
            go_wp2_with fail
            refine (HP.out.no S6.out (k := 0) rfl HGN.out).mono ?_
            rintro e' w7 ⟨he, hb7⟩
            rw [HT2.out.t] at he
            subst he
            have S7 := Lib.hid (S6.out.later hb7)
            clear hb7 S6
            go_wp2_with fail
            go_roundg (ns - (q + 1))
            case measure => have := HGK.out; omega
            case rel => exact ⟨q + 1, g2, _, p2, _, _, _, by omega, by omega, by have := HGK.out; omega, rfl, rfl, by go_num, HT2, HK2, S7⟩
          · have hl6 : ¬ ((q : Int) < 20) := by omega
            go_wp2_with fail
            go_meet
            exact ⟨g', k, p, E, s, T, rfl, rfl, Lib.hid (HT.out.imp (fun _ => by omega)), HK, HI⟩
        · have hli : ¬ ((q : Int) < (ns : Int)) := by omega
          go_wp2_with fail
          go_meet
          exact ⟨g', k, p, E, s, T, rfl, rfl, Lib.hid (HT.out.imp (fun _ => by omega)), HK, HI⟩
    case rest =>
      obtain ⟨g', k, p, E, s, T, rfl, rfl, HT, HK, HI⟩ := hcut
      clear S3
      have HE : Hid (0 ≤ E ∧ E < 18446744073709551616) := Lib.hid (by have := HT.out.g.t; rw [HT.out.t] at this; exact this)
      have hmx : max s0.t E = E := by have := HE.out; have := HG0.out.2.1; omega
      have HGA := Lib.hid HG0.out.1
      have HGS := Lib.hid HT.out.g
      have HGB := Lib.hid (HGA.out.adv HE.out)
      have HTB : Hid ((advW s0 E).t = E) := Lib.hid hmx
      have HMX := Lib.hid hmx
      have qE : (E == E) = true := by simp
      have hd30 : (dueL s0.l E).length ≤ 30 := by
        have h1 : (dueL s0.l E).length ≤ s0.l.length := List.length_filter_le _ _
        have := HG0.out.2.2
        omega
      have HD3 := Lib.hid hd30
      clear hmx hd30
      by_cases h0 : 0 < ns
      · have h0i : (0 : Int) < (ns : Int) := by omega
        have hz : ((ns : Int) == 0) = false := by rw [beq_eq_false_iff_ne]; omega
        obtain ⟨o1, o2⟩ := HT.out.once h0 HG0.out.2.1
        have HO1 := Lib.hid o1
        have HO2 := Lib.hid o2
        clear o1 o2
        go_wp2_with fail
        refine (HP.out.ad E HI.out (k := 1) rfl HGA.out HE.out).mono ?_
        rintro e' w4 ⟨A4, p4, rfl, h4⟩
        rw [HMX.out, HO1.out, HO2.out, ← HK.out] at h4
        rw [HMX.out, HO1.out, ← HK.out]
        have S4 : Hid (Sp.Sep w w4 [WI ga s, WI gb s, rowS 57 2 (.slice (some ⟨g', 0, none⟩) k p) k (T.flatMap tmC), trI A4 k T]) := Lib.hid h4
        have HK3 : Hid (k ≤ 30) := Lib.hid (by have := HD3.out; rw [HO1.out, ← HK.out] at this; exact this)
        clear h4 HI
        go_wp2_with fail
        refine (timers_any (tr_at S4.out (k := 3) rfl) (by have := HK3.out; omega)).mono ?_
        rintro e' w5 ⟨A5, p5, rfl, r5, hb5⟩
        have S5 := Lib.hid (S4.out.later hb5)
        have HQ := Lib.hid (fun q => same_yes (p := p) (q := q) (TR.of_row S5.out (k := 2) rfl HK.out) r5 (by have := HK3.out; omega))
        clear hb5 S4 r5
        go_wp2_with fail
        refine (HQ.out _).mono ?_
        rintro e' w6 ⟨rfl, hb6⟩
        have S6 := Lib.hid (S5.out.later hb6)
        clear hb6 HQ S5
        go_wp2_with fail
        refine (HP.out.no S6.out (k := 0) rfl HGS.out).mono ?_
        rintro e' w7 ⟨he, hb7⟩
        rw [HT.out.t] at he
        subst he
        have S7 := Lib.hid (S6.out.later hb7)
        clear hb7 S6
        go_wp2_with fail
        refine (HP.out.no S7.out (k := 1) rfl HGS.out).mono ?_
        rintro e' w8 ⟨he, hb8⟩
        rw [HT.out.t] at he
        subst he
        have S8 := Lib.hid (S7.out.later hb8)
        clear hb8 S7
        go_wp2_with fail
        obtain ⟨y, ey⟩ : ∃ z, s.l.length = z := ⟨_, rfl⟩
        have HYL := Lib.hid ey
        have qy : ((y : Int) == (y : Int)) = true := by simp
        clear ey
        refine (HP.out.ln S8.out (k := 0) rfl HGS.out).mono ?_
        rintro e' w9 ⟨he, hb9⟩
        rw [HYL.out] at he
        subst he
        have S9 := Lib.hid (S8.out.later hb9)
        clear hb9 S8
        go_wp2_with fail
        refine (HP.out.ln S9.out (k := 1) rfl HGS.out).mono ?_
        rintro e' wa ⟨he, hba⟩
        rw [HYL.out] at he
        subst he
        have Sa := Lib.hid (S9.out.later hba)
        obtain ⟨cc, ec⟩ : ∃ z, cnI s.t s.l = z := ⟨_, rfl⟩
        have HCC := Lib.hid ec
        have hq5 : ∀ W, (binOp BinOp.eql 48 (.agg #[.int .i64 (cc 0), .int .i64 (cc 1), .int .i64 (cc 2), .int .i64 (cc 3), .int .i64 (cc 4)]) (.agg #[.int .i64 (cc 0), .int .i64 (cc 1), .int .i64 (cc 2), .int .i64 (cc 3), .int .i64 (cc 4)])).run Try.prog W = .ok (.bool true) W := fun W => eql5 cc W
        clear hba S9 ec
        go_wp2_with fail
        refine (HP.out.lv Sa.out (k := 0) rfl HGS.out).mono ?_
        rintro e' wb ⟨he, hbb⟩
        rw [HCC.out] at he
        replace he : e' = .returned (.agg #[.int .i64 (cc 0), .int .i64 (cc 1), .int .i64 (cc 2), .int .i64 (cc 3), .int .i64 (cc 4)]) := he
        subst he
        have Sb := Lib.hid (Sa.out.later hbb)
        clear hbb Sa
        go_wp2_with fail
        refine (HP.out.lv Sb.out (k := 1) rfl HGS.out).mono ?_
        rintro e' wcc ⟨he, hbc⟩
        rw [HCC.out] at he
        replace he : e' = .returned (.agg #[.int .i64 (cc 0), .int .i64 (cc 1), .int .i64 (cc 2), .int .i64 (cc 3), .int .i64 (cc 4)]) := he
        subst he
        have Sc := Lib.hid (Sb.out.later hbc)
        clear hbc Sb
        go_wp2_with fail
        refine (fixed_any HP.out _).mono ?_
        rintro e' wdd ⟨rfl, hbd⟩
        have BD := Lib.hid (Sc.out.below.trans (hbd.mono Sc.out.below.size))
        clear hbd Sc
        go_wp2_with fail
        go_ret
        exact ⟨rfl, BD.out⟩
      · obtain rfl : ns = 0 := by omega
        have hz : (((0 : Nat) : Int) == 0) = true := rfl
        obtain ⟨D, eD⟩ : ∃ z, dueL s0.l E = z := ⟨_, rfl⟩
        obtain ⟨sb, es⟩ : ∃ z, advW s0 E = z := ⟨_, rfl⟩
        have HED := Lib.hid eD
        have HES := Lib.hid es
        rw [eD] at HD3
        rw [es] at HGB HTB
        clear eD es
        go_wp2_with fail
        refine (HP.out.ad E HI.out (k := 1) rfl HGA.out HE.out).mono ?_
        rintro e' w4 ⟨A4, p4, rfl, h4⟩
        rw [HMX.out, HED.out, HES.out] at h4
        rw [HMX.out, HED.out]
        have S4 : Hid (Sp.Sep w w4 [WI ga s, WI gb sb, rowS 57 2 (.slice (some ⟨g', 0, none⟩) k p) k (T.flatMap tmC), trI A4 D.length D]) := Lib.hid h4
        clear h4 HI
        go_wp2_with fail
        refine (timers_any (tr_at S4.out (k := 3) rfl) (by have := HD3.out; omega)).mono ?_
        rintro e' w5 ⟨A5, p5, rfl, r5, hb5⟩
        have S5 := Lib.hid (S4.out.later hb5)
        clear hb5 S4 r5
        go_wp2_with fail
        refine (HP.out.no S5.out (k := 0) rfl HGS.out).mono ?_
        rintro e' w7 ⟨he, hb7⟩
        rw [HT.out.t] at he
        subst he
        have S7 := Lib.hid (S5.out.later hb7)
        clear hb7 S5
        go_wp2_with fail
        refine (HP.out.no S7.out (k := 1) rfl HGB.out).mono ?_
        rintro e' w8 ⟨he, hb8⟩
        rw [HTB.out] at he
        subst he
        have S8 := Lib.hid (S7.out.later hb8)
        clear hb8 S7
        go_wp2_with fail
        refine (fixed_any HP.out _).mono ?_
        rintro e' wdd ⟨rfl, hbd⟩
        have BD := Lib.hid (S8.out.below.trans (hbd.mono S8.out.below.size))
        clear hbd S8
        go_wp2_with fail
        go_ret
        exact ⟨rfl, BD.out⟩

set_option maxRecDepth 100000 in
theorem lifted {WI : Nat → Wh → Sp.Item} (P : Prg WI) (os : Os) (started : os.Started) (H : Type) (enc : TypeId × Value → H) :
    ReturnsInHanded {} Try.checked os 5 .any (Rows.wheelStepsSpec.pre6 enc Try.prog Try.f5 Rows.wheelStepsRow.domain false) (Rows.wheelStepsSpec.post enc Try.prog Try.f5 false true false false) := by
  refine returnsInHanded_of_change (C := Try.checked) own started (by kernel_rfl) Try.func5
    (ChangeSpec.witness6 (enc := enc) (C := Try.checked) false ⟨#[], #[.slice none 0 0, .slice none 0 0], []⟩ 8 (by kernel_rfl) (by kernel_rfl) (by kernel_rfl) (by kernel_rfl)) ?_
  intro W base args ds gs before hval0 hW hcnd _
  have hval : ∀ (j : Nat) t v, Try.f5.params[j]? = some t → args[j]? = some v → Value.okWide Try.prog W .any base t v := hval0
  have hW' := hW
  obtain ⟨p, q, hA0, hV, rfl, hfz, hnd⟩ := hW
  have hA : DataW.TrodAll enc Try.prog W 0 (fun _ => true) true Try.f5.params.toList args.toList ds p := hA0
  rw [Try.params5] at hA hval
  obtain ⟨v0, vs0, d0, ds0, p0, q0, hargs, rfl, rfl, h0, r0⟩ := trodAll_cons hA
  obtain ⟨v1, vs1, d1, ds1, p1, q1, rfl, rfl, rfl, h1, r1⟩ := trodAll_cons r0
  obtain ⟨rfl, rfl, rfl⟩ := trodAll_nil r1
  obtain rfl : args = #[v0, v1] := by cases args; simp_all
  obtain ⟨rfl, rfl⟩ := trodVars_none hV
  obtain ⟨A0, n0, c0, L0, rfl, hn0, hL0, ho0⟩ := open_timers (hval 0 38 v0 rfl rfl) h0
  obtain ⟨A1, n1, c1, f1, rfl, hn1, hc1, hw1⟩ := open_nums Try.underlying39 Try.underlying22 (by kernel_rfl) (hval 1 39 v1 rfl rfl) h1
  clear hA0 hval0
  try simp only [List.append_nil] at hW'
  try simp only [List.nil_append] at hW'
  have hlt := fun x hx => hW'.lt x hx
  refine (walk P A0 n0 c0 L0 A1 n1 c1 f1 W hn0 hL0 (fun x hx => (ho0 x hx).2) hn1 hc1 (fun j hj => u64_of (hw1 j hj))).mono fun e W' ⟨he, hg⟩ => ?_
  subst he
  refine ⟨_, rfl, post_mem hW' (fun _ _ _ => (trodAll_cons_mk (shut_bool Try.underlying4 _) trodAll_mk0)) (fun sp hsp => ?_) (fun _ => rfl) hg (ok_one (by kernel_rfl) rfl (okWide_bool_mk Try.underlying4 _))⟩
  have hall := (trodAll_cons_mk (arg_same (sp := sp) laid (by kernel_rfl) (of_decide_eq_true (by kernel_rfl)) h0 hg (by intro x hx; simp_all) hlt hsp) (trodAll_cons_mk (arg_same (sp := sp) laid (by kernel_rfl) (of_decide_eq_true (by kernel_rfl)) h1 hg (by intro x hx; simp_all) hlt hsp) trodAll_mk0))
  try simp only [List.append_nil] at hall
  try simp only [List.nil_append] at hall
  exact hall

theorem over {WI : Nat → Wh → Sp.Item} (P : Prg WI) : Rows.wheelStepsRow.holds Try.pinned (OpenSpec.ofChange Rows.wheelStepsSpec) :=
  OpenClaim.holds_of_wide 5 Try.f5 rfl rfl rfl rfl rfl rfl rfl ⟨rfl, rfl, rfl, rfl, rfl⟩ rfl rfl rfl rfl rfl (by kernel_rfl) Try.func5 (by kernel_rfl)
    (of_decide_eq_true (by kernel_rfl)) (by unfold Func.isWrapper; first | (rw [if_pos (by decide +kernel)]; kernel_rfl) | (rw [if_neg (by decide +kernel)]; exact ⟨rfl, rfl⟩))
    (fun os started H enc _ => lifted P os started H enc)

end Go.Proofs.Ytogfpakopckfoaa.wheelSteps
