/- For every list of records, and numbers, the statement ReplayOrder about replay returns true, and changes nothing. Conditions: none. -/
import Derived.Test.YtckakkocblkcoaaReR
import Derived.ProofKit
import Derived.OpenShut
import Derived.ShutString
import Derived.SizedLaws
namespace Go.Proofs.Ytckakkocblkcoaa.replayOrder
open Go.ChangeShapes Go.WideShapes Go.ChangeAt Go.RowKit Go.Lib Go.MapKept
open Go.ChangeMaps (open_string shut_string)
set_option linter.unusedVariables false

theorem own : ownKnob Try.prog.godebug = none := by kernel_rfl
theorem laid : laidOutB Try.prog = true := by kernel_rfl

set_option maxRecDepth 100000
open Re Sp
theorem join_comm {p q : Rec} (h : p.v ≠ q.v) : joinR (some p) (some q) = joinR (some q) (some p) := by
  rw [join_two, join_two]
  by_cases h1 : p.v ≤ q.v
  · rw [if_pos h1, if_neg (by omega)]
  · rw [if_neg h1, if_pos (by omega)]
/-- No two of an id have the same version. -/
def Apart (L : List Rec) : Prop := ∀ (a b : Nat) (r q : Rec), b < a → L[a]? = some r → L[b]? = some q → ¬ (q.key = r.key ∧ q.v = r.v)
theorem apart_tail {r : Rec} {L : List Rec} (h : Apart (r :: L)) : Apart L := fun a b x y hb hx hy => h (a + 1) (b + 1) x y (by omega) (by simpa using hx) (by simpa using hy)
theorem best_reverse (x : Key) : ∀ {L : List Rec}, Apart L → best L.reverse x = best L x
  | [], _ => rfl
  | r :: L, h => by
    rw [List.reverse_cons, best_snoc, best_reverse x (apart_tail h), best_cons]
    cases h1 : best L x with
    | none => rw [join_none]; cases one x r <;> rfl
    | some p =>
      cases h2 : one x r with
      | none => rw [join_none]; rfl
      | some q =>
        obtain ⟨rfl, h3, h4⟩ := one_some h2
        obtain ⟨m1, m2, m3⟩ := best_mem h1
        obtain ⟨j, hj, hp⟩ := List.getElem_of_mem m1
        have := h (j + 1) 0 p q (by omega) (by simpa using List.getElem?_eq_some_iff.2 ⟨hj, hp⟩) rfl
        exact join_comm fun e => this ⟨by rw [h4, m3], e.symm⟩
theorem rev_eq {L : List Rec} (h : Apart L) : newest L.reverse = newest L := newest_ext fun x => best_reverse x h
theorem rev_take {C : List Rec} {n j i : Nat} {r : Rec} (hn : n = C.length) (hj : j < n) (hi : i + j + 1 = n) (hr : C[i]? = some r) : C.reverse.take (j + 1) = C.reverse.take j ++ [r] := by
  refine take_one ?_
  rw [List.getElem?_reverse (by omega)]
  rw [← hr]
  congr 1
  omega
set_option maxHeartbeats 32000000 in
theorem walk (P : Prg) (A : Option Addr) (n p : Nat) (L : List Rec) (now : Int) (w : World) (hL : RR w A n L) (hn : n ≤ maxLen) (hf : Fine L) (h1 : 0 ≤ now ∧ now < 18446744073709551616) :
    Calls Try.prog 4 #[.slice A n p, .int .u64 now] w fun e w' => e = .returned (.bool true) ∧ Below w.heap.size w w' := by
  have HC : Hid (Calls Try.prog 9 #[.slice A n p, .int .i64 40] w fun e w' => ∃ g' p', e = .returned (.slice (some ⟨g', 0, none⟩) (min 40 n) p') ∧ RR w' (some ⟨g', 0, none⟩) (min 40 n) (cutL L 40) ∧ Below w.heap.size w w') := Lib.hid (cut_any p hL hn 40 (by decide) hf)
  have HF := Lib.hid (cut_fine hf 40)
  have HN := Lib.hid (show min 40 n ≤ 40 by omega)
  have HW := Lib.hid h1
  clear hL hn hf h1
  generalize cutL L 40 = C at *
  generalize min 40 n = nc at *
  go_enter Try.func4, Try.ntmps4
  go_wp2_with fail
  refine HC.out.mono ?_
  rintro e' w1 ⟨gc, pc, rfl, hr, hb⟩
  have hC := Lib.hid hr
  have BB := Lib.hid hb
  clear HC hr hb
  have S3 : Sp.Sep w1 (w1.alloc (.cells #[] 42)) [rowS 42 7 (.slice (some ⟨w1.heap.size, 0, none⟩) 0 0) 0 []] := rows_lit (Sp.Sep.nil (Below.refl _ _)) 42 7
  have ws : IntKind.i64.wrap ((nc : Int) - 1) = (nc : Int) - 1 := IntWalk.i64_in _ (by have := HN.out; omega)
  go_upto_region 4 with fail
  change Code.wp _ _ _ _ (w1.alloc (.cells #[] 42))
  have HI0 := Lib.hid S3
  clear S3 ws
  obtain ⟨b0, e0⟩ : ∃ z, w1.heap.size = z := ⟨_, rfl⟩
  rw [e0] at HI0 ⊢
  clear e0
  generalize w1.alloc (.cells #[] 42) = w2 at *
  go_loopg [5, 6] nc (fun gk s5 s6 wr => ∃ (j g5 p5 : Nat) (z : Int), j ≤ nc ∧ gk = nc - j ∧ z = (nc : Int) - 1 - j ∧ s5 = .slice (some ⟨g5, 0, none⟩) j p5 ∧ s6 = .int .i64 z ∧ Hid ((∀ (a b : Nat) (r q : Rec), nc - j ≤ a → b < a → C[a]? = some r → C[b]? = some q → ¬ (q.key = r.key ∧ q.v = r.v)) ∧ Sp.Sep w1 wr [rowS 42 7 (.slice (some ⟨g5, 0, none⟩) j p5) j ((C.reverse.take j).flatMap rcC)]))
  case atStart => exact ⟨0, _, _, _, by omega, rfl, by simp, rfl, rfl, Lib.hid ⟨fun a b r q ha hb hr => by
    have := (List.getElem?_eq_some_iff.1 hr).1
    rw [← hC.out.len] at this
    omega, HI0.out⟩⟩
  case round =>
    obtain ⟨j, g5, p5, z, hj, hgk, hz, rfl, rfl, HI⟩ := hrel
    have HGK := Lib.hid hgk
    clear hgk HI0
    by_cases hlt : j < nc
    · obtain ⟨i, hi⟩ : ∃ i : Nat, i + j + 1 = nc := ⟨nc - 1 - j, by omega⟩
      obtain rfl : z = (i : Int) := by omega
      have hin : i < nc := by omega
      have hini : (i : Int) < (nc : Int) := by omega
      obtain ⟨r, hr⟩ : ∃ r, C[i]? = some r := ⟨_, List.getElem?_eq_getElem (by rw [← hC.out.len]; exact hin)⟩
      obtain ⟨gc', oc, ec, hc⟩ := hC.out.rc (by omega)
      injection ec with ec
      injection ec with ec1 ec2 _
      subst ec1 ec2
      have R := (hc i r hr).later HI.out.2.below
      simp only [Nat.zero_add] at R
      have x0 := R.c0
      have x1 := R.c1
      have x2 := R.c2
      have x3 := R.c3
      have x4 := R.c4
      have x5 := R.c5
      have x6 := R.c6
      have HRT := Lib.hid (rev_take hC.out.len hlt hi hr)
      have HZS : (Value.agg #[.int .u64 0, .int .u32 0, .int .i64 0, .int .u64 0, .int .u64 0, .string ⟨#[]⟩, .string ⟨#[]⟩]).cells.size = 7 := rfl
      have HLN := rcC_len r
      have HC1 := rc_one r
      have hj1 : j + 1 < 1000 := by have := HN.out; omega
      have wi : IntKind.i64.wrap ((i : Int) - 1) = (i : Int) - 1 := IntWalk.i64_in _ (by have := HN.out; omega)
      have HRR := Lib.hid hr
      have HCC := Lib.hid hc
      clear hr hc R hz
      go_upto_region 7 with (refine wp_append_l (cs := rcC r) prec_infos HZS (by decide) (by decide) Try.underlying22 rfl (.tmp 18) (.tmp 23) rfl rfl _ 1 1 rfl (HI.out.2.alloc _) 0 rfl hj1 HLN (new_cells _ _ _) HC1 ?_; intro g9 p9 w15 h15; clear HZS HLN HC1 x0 x1 x2 x3 x4 x5 x6; have H15 := Lib.hid h15; clear h15)
      have H16 : Hid (Sp.Sep w1 w15 [rowS 42 7 (.slice (some ⟨g9, 0, none⟩) (j + 1) p9) (j + 1) ((C.reverse.take (j + 1)).flatMap rcC)]) := Lib.hid (by
        rw [HRT.out, List.flatMap_append]
        simpa using H15.out)
      clear H15 HRT
      go_wp2_with fail
      go_loopg [7] i (fun gk s7 wr => ∃ (k : Nat), k ≤ i ∧ gk = i - k ∧ s7 = .int .i64 (k : Nat) ∧ Hid ((∀ (b : Nat) (q : Rec), b < k → C[b]? = some q → ¬ (q.key = r.key ∧ q.v = r.v)) ∧ Below w15.heap.size w15 wr))
      case atStart => exact ⟨0, by omega, rfl, rfl, Lib.hid ⟨fun b q hb => by omega, Below.refl _ _⟩⟩
      case round =>
        obtain ⟨k, hk, hgk, rfl, HJ⟩ := hrel
        have HGJ := Lib.hid hgk
        clear hgk
        by_cases hki : k < i
        · have hkii : (k : Int) < (i : Int) := by omega
          have hkn : (k : Int) < (nc : Int) := by omega
          obtain ⟨q, hq⟩ : ∃ q, C[k]? = some q := ⟨_, List.getElem?_eq_getElem (by rw [← hC.out.len]; omega)⟩
          have SB : Hid (Below w1.heap.size w1 wr) := Lib.hid (H16.out.below.trans (HJ.out.2.mono H16.out.below.size))
          have Rq := (HCC.out k q hq).later SB.out
          have Rr := (HCC.out i r HRR.out).later SB.out
          simp only [Nat.zero_add] at Rq Rr
          have y5 := Rq.c5
          have y3 := Rq.c3
          have x5 := Rr.c5
          have x3 := Rr.c3
          have HQ := Lib.hid hq
          have HBN : Hid (∀ q, Below w15.heap.size w15 (wr.drewN q)) := Lib.hid (fun q => below_drewN HJ.out.2 q)
          have HBW : Hid (∀ q, Below w.heap.size w (wr.drewN q)) := Lib.hid (fun q => below_drewN (BB.out.trans (SB.out.mono BB.out.size)) q)
          obtain ⟨ky, eky⟩ : ∃ z, decide (q.key = r.key) = z := ⟨_, rfl⟩
          have qk : (q.i.toList == r.i.toList) = ky := key_eq.trans eky
          have HKY := Lib.hid eky
          have wk : IntKind.i64.wrap ((k : Int) + 1) = (k : Int) + 1 := IntWalk.i64_in _ (by have := HN.out; omega)
          clear hq Rq Rr eky SB
          go_upto_region 10 with fail
          cases ky with
          | false =>
            have HNO : Hid (¬ (q.key = r.key ∧ q.v = r.v)) := Lib.hid (fun h => by have := HKY.out; simp [h.1] at this)
            go_quiet (fail)
            clear x5 x3 y5 y3 qk
            go_wp2_with fail
            go_roundg (i - (k + 1))
            case measure => have := HGJ.out; omega
            case rel => exact ⟨k + 1, by omega, by have := HGJ.out; omega, by go_num, Lib.hid ⟨fun b q' hb hq' => by
              rcases Nat.lt_or_ge b k with h | h
              · exact HJ.out.1 b q' h hq'
              · obtain rfl : b = k := by omega
                rw [HQ.out] at hq'
                injection hq' with hq'
                subst hq'
                exact HNO.out, HBN.out _⟩⟩
          | true =>
            by_cases hv : q.v = r.v
            · have qv : (q.v == r.v) = true := by simpa using hv
              go_quiet (fail)
              clear x5 x3 y5 y3 qk qv hv
              go_wp2_with fail
              refine (fixed_any P _).mono ?_
              rintro e' w16 ⟨rfl, hb⟩
              have BF := Lib.hid ((HBW.out _).trans (hb.mono (HBW.out _).size))
              clear hb
              go_wp2_with fail
              try rw [Exit.noGoto_ret]
              try rw [Exit.noGoto_ret]
              go_ret
              exact ⟨rfl, BF.out⟩
            · have qv : (q.v == r.v) = false := by simpa using hv
              have HNO : Hid (¬ (q.key = r.key ∧ q.v = r.v)) := Lib.hid (fun h => hv h.2)
              go_quiet (fail)
              clear x5 x3 y5 y3 qk qv hv
              go_wp2_with fail
              go_roundg (i - (k + 1))
              case measure => have := HGJ.out; omega
              case rel => exact ⟨k + 1, by omega, by have := HGJ.out; omega, by go_num, Lib.hid ⟨fun b q' hb hq' => by
                rcases Nat.lt_or_ge b k with h | h
                · exact HJ.out.1 b q' h hq'
                · obtain rfl : b = k := by omega
                  rw [HQ.out] at hq'
                  injection hq' with hq'
                  subst hq'
                  exact HNO.out, HBN.out _⟩⟩
        · obtain rfl : k = i := by omega
          have hkii : ¬ ((k : Nat) : Int) < (k : Int) := by omega
          have H17 := Lib.hid (H16.out.later HJ.out.2)
          clear hki
          go_wp2_with fail
          go_roundg (nc - (j + 1))
          case measure => have := HGK.out; omega
          case rel => exact ⟨j + 1, g9, p9, _, by omega, by have := HGK.out; omega, by omega, rfl, rfl, Lib.hid ⟨fun a b r' q ha hb hr' hq => by
            rcases Nat.lt_or_ge a (nc - j) with h | h
            · obtain rfl : a = k := by omega
              rw [HRR.out] at hr'
              injection hr' with hr'
              subst hr'
              exact HJ.out.1 b q hb hq
            · exact HI.out.1 a b r' q h hb hr' hq, H17.out⟩⟩
    · obtain rfl : nc = j := by omega
      obtain rfl : z = -1 := by omega
      have HAP : Hid (Apart C) := Lib.hid (fun a b r q hb hr hq => HI.out.1 a b r q (by omega) hb hr hq)
      have hrv : C.reverse.take nc = C.reverse := by rw [hC.out.len, ← List.length_reverse, List.take_length]
      have S9 := HI.out.2
      rw [hrv] at S9
      have hT := Lib.hid (RR.of_row S9 (k := 0) rfl (L := C.reverse) (by rw [List.length_reverse, hC.out.len]))
      have HFT : Hid (Fine C.reverse) := Lib.hid (fun r hr => HF.out r (List.mem_reverse.1 hr))
      replace hC := Lib.hid (hC.out.later S9.below)
      replace BB := Lib.hid (BB.out.trans (S9.below.mono BB.out.size))
      clear HI S9 hrv hlt hj
      go_wp2_with fail
      have HK := Lib.hid (P.nw pc hC.out (by have := HN.out; omega) HF.out)
      go_wp2_with fail
      refine HK.out.mono ?_
      rintro e' wk1 ⟨A1, p1, rfl, hr, hb⟩
      replace hC := Lib.hid (hC.out.later hb)
      replace hT := Lib.hid (hT.out.later hb)
      replace BB := Lib.hid (BB.out.trans (hb.mono BB.out.size))
      have h1 := Lib.hid hr
      clear HK hb hr
      have HK := Lib.hid (refs_any (p := p1) h1.out (by rw [h1.out.len]; have := newest_len C; have := hC.out.len; have := HN.out; omega))
      go_wp2_with fail
      refine HK.out.mono ?_
      rintro e' wk2 ⟨A2, p2, rfl, hr, hb⟩
      replace hC := Lib.hid (hC.out.later hb)
      replace hT := Lib.hid (hT.out.later hb)
      replace h1 := Lib.hid (h1.out.later hb)
      replace BB := Lib.hid (BB.out.trans (hb.mono BB.out.size))
      have h2 := Lib.hid hr
      clear HK hb hr
      clear h1
      have HK := Lib.hid (by have h := P.nw p5 hT.out (by have := HN.out; omega) HFT.out; rw [rev_eq HAP.out] at h; exact h)
      go_wp2_with fail
      refine HK.out.mono ?_
      rintro e' wk3 ⟨A3, p3, rfl, hr, hb⟩
      replace hC := Lib.hid (hC.out.later hb)
      replace hT := Lib.hid (hT.out.later hb)
      replace h2 := Lib.hid (h2.out.later hb)
      replace BB := Lib.hid (BB.out.trans (hb.mono BB.out.size))
      have h3 := Lib.hid hr
      clear HK hb hr
      have HK := Lib.hid (refs_any (p := p3) h3.out (by rw [h3.out.len]; have := newest_len C; have := hC.out.len; have := HN.out; omega))
      go_wp2_with fail
      refine HK.out.mono ?_
      rintro e' wk4 ⟨A4, p4, rfl, hr, hb⟩
      replace hC := Lib.hid (hC.out.later hb)
      replace hT := Lib.hid (hT.out.later hb)
      replace h2 := Lib.hid (h2.out.later hb)
      replace h3 := Lib.hid (h3.out.later hb)
      replace BB := Lib.hid (BB.out.trans (hb.mono BB.out.size))
      have h4 := Lib.hid hr
      clear HK hb hr
      clear h3
      have HK := Lib.hid (records_yes (p := p2) (q := p4) h2.out h4.out (by rw [h2.out.len]; have := newest_len C; have := hC.out.len; have := HN.out; omega))
      go_wp2_with fail
      refine HK.out.mono ?_
      rintro e' wk5 ⟨rfl, hb⟩
      replace hC := Lib.hid (hC.out.later hb)
      replace hT := Lib.hid (hT.out.later hb)
      replace h2 := Lib.hid (h2.out.later hb)
      replace h4 := Lib.hid (h4.out.later hb)
      replace BB := Lib.hid (BB.out.trans (hb.mono BB.out.size))
      clear HK hb
      clear h2 h4
      have HK := Lib.hid (P.ss pc now hC.out (by have := HN.out; omega) HF.out HW.out)
      go_wp2_with fail
      refine HK.out.mono ?_
      rintro e' wk6 ⟨A1, p1, rfl, hr, hb⟩
      replace hC := Lib.hid (hC.out.later hb)
      replace hT := Lib.hid (hT.out.later hb)
      replace BB := Lib.hid (BB.out.trans (hb.mono BB.out.size))
      have h1 := Lib.hid hr
      clear HK hb hr
      have HK := Lib.hid (lives_any (p := p1) h1.out (by rw [h1.out.len]; have := sesL_len (newest C) now; have := newest_len C; have := hC.out.len; have := HN.out; omega))
      go_wp2_with fail
      refine HK.out.mono ?_
      rintro e' wk7 ⟨A2, p2, rfl, hr, hb⟩
      replace hC := Lib.hid (hC.out.later hb)
      replace hT := Lib.hid (hT.out.later hb)
      replace h1 := Lib.hid (h1.out.later hb)
      replace BB := Lib.hid (BB.out.trans (hb.mono BB.out.size))
      have h2 := Lib.hid hr
      clear HK hb hr
      clear h1
      have HK := Lib.hid (by have h := P.ss p5 now hT.out (by have := HN.out; omega) HFT.out HW.out; rw [rev_eq HAP.out] at h; exact h)
      go_wp2_with fail
      refine HK.out.mono ?_
      rintro e' wk8 ⟨A3, p3, rfl, hr, hb⟩
      replace hC := Lib.hid (hC.out.later hb)
      replace hT := Lib.hid (hT.out.later hb)
      replace h2 := Lib.hid (h2.out.later hb)
      replace BB := Lib.hid (BB.out.trans (hb.mono BB.out.size))
      have h3 := Lib.hid hr
      clear HK hb hr
      have HK := Lib.hid (lives_any (p := p3) h3.out (by rw [h3.out.len]; have := sesL_len (newest C) now; have := newest_len C; have := hC.out.len; have := HN.out; omega))
      go_wp2_with fail
      refine HK.out.mono ?_
      rintro e' wk9 ⟨A4, p4, rfl, hr, hb⟩
      replace hC := Lib.hid (hC.out.later hb)
      replace hT := Lib.hid (hT.out.later hb)
      replace h2 := Lib.hid (h2.out.later hb)
      replace h3 := Lib.hid (h3.out.later hb)
      replace BB := Lib.hid (BB.out.trans (hb.mono BB.out.size))
      have h4 := Lib.hid hr
      clear HK hb hr
      clear h3
      have HK := Lib.hid (same_yes (p := p2) (q := p4) h2.out h4.out (by rw [h2.out.len]; have := sesL_len (newest C) now; have := newest_len C; have := hC.out.len; have := HN.out; omega))
      go_wp2_with fail
      refine HK.out.mono ?_
      rintro e' wk10 ⟨rfl, hb⟩
      replace hC := Lib.hid (hC.out.later hb)
      replace hT := Lib.hid (hT.out.later hb)
      replace h2 := Lib.hid (h2.out.later hb)
      replace h4 := Lib.hid (h4.out.later hb)
      replace BB := Lib.hid (BB.out.trans (hb.mono BB.out.size))
      clear HK hb
      clear h2 h4
      have HK := Lib.hid (fixed_any P wk10)
      go_wp2_with fail
      refine HK.out.mono ?_
      rintro e' wk11 ⟨rfl, hb⟩
      replace hC := Lib.hid (hC.out.later hb)
      replace hT := Lib.hid (hT.out.later hb)
      replace BB := Lib.hid (BB.out.trans (hb.mono BB.out.size))
      clear HK hb
      go_wp2_with fail
      go_ret
      exact ⟨rfl, BB.out⟩

set_option maxRecDepth 100000 in
theorem lifted (P : Prg) (os : Os) (started : os.Started) (H : Type) (enc : TypeId × Value → H) :
    ReturnsInHanded {} Try.checked os 4 .any (Rows.replayOrderSpec.pre6 enc Try.prog Try.f4 Rows.replayOrderRow.domain false) (Rows.replayOrderSpec.post enc Try.prog Try.f4 false true false false) := by
  refine returnsInHanded_of_change (C := Try.checked) own started (by kernel_rfl) Try.func4
    (ChangeSpec.witness6 (enc := enc) (C := Try.checked) false ⟨#[], #[.slice none 0 0, .int .u64 0], []⟩ 8 (by kernel_rfl) (by kernel_rfl) (by kernel_rfl) (by kernel_rfl)) ?_
  intro W base args ds gs before hval0 hW hcnd _
  have hval : ∀ (j : Nat) t v, Try.f4.params[j]? = some t → args[j]? = some v → Value.okWide Try.prog W .any base t v := hval0
  have hW' := hW
  obtain ⟨p, q, hA0, hV, rfl, hfz, hnd⟩ := hW
  have hA : DataW.TrodAll enc Try.prog W 0 (fun _ => true) true Try.f4.params.toList args.toList ds p := hA0
  rw [Try.params4] at hA hval
  obtain ⟨v0, vs0, d0, ds0, p0, q0, hargs, rfl, rfl, h0, r0⟩ := trodAll_cons hA
  obtain ⟨v1, vs1, d1, ds1, p1, q1, rfl, rfl, rfl, h1, r1⟩ := trodAll_cons r0
  obtain ⟨rfl, rfl, rfl⟩ := trodAll_nil r1
  obtain rfl : args = #[v0, v1] := by cases args; simp_all
  obtain ⟨rfl, rfl⟩ := trodVars_none hV
  obtain ⟨A0, n0, c0, L0, rfl, hn0, hL0, hf0⟩ := Re.open_recs (hval 0 22 v0 rfl rfl) h0
  obtain ⟨a1, rfl, rfl, rfl, w1⟩ := open_int Try.underlying23 (hval 1 23 v1 rfl rfl) h1
  clear hA0 hval0
  try simp only [List.append_nil] at hW'
  try simp only [List.nil_append] at hW'
  have hlt := fun x hx => hW'.lt x hx
  refine (walk P A0 n0 c0 L0 a1 W hL0 hn0 hf0 (u64_of w1)).mono fun e W' ⟨he, hg⟩ => ?_
  subst he
  refine ⟨_, rfl, post_mem hW' (fun _ _ _ => (trodAll_cons_mk (shut_bool Try.underlying4 _) trodAll_mk0)) (fun sp hsp => ?_) (fun _ => rfl) hg (ok_one (by kernel_rfl) rfl (okWide_bool_mk Try.underlying4 _))⟩
  have hall := (trodAll_cons_mk (arg_same (sp := sp) laid (by kernel_rfl) (of_decide_eq_true (by kernel_rfl)) h0 hg (by intro x hx; simp_all) hlt hsp) (trodAll_cons_mk (arg_same (sp := sp) laid (by kernel_rfl) (of_decide_eq_true (by kernel_rfl)) h1 hg (by intro x hx; simp_all) hlt hsp) trodAll_mk0))
  try simp only [List.append_nil] at hall
  try simp only [List.nil_append] at hall
  exact hall

theorem over (P : Prg) : Rows.replayOrderRow.holds Try.pinned (OpenSpec.ofChange Rows.replayOrderSpec) :=
  OpenClaim.holds_of_wide 4 Try.f4 rfl rfl rfl rfl rfl rfl rfl ⟨rfl, rfl, rfl, rfl, rfl⟩ rfl rfl rfl rfl rfl (by kernel_rfl) Try.func4 (by kernel_rfl)
    (of_decide_eq_true (by kernel_rfl)) (by unfold Func.isWrapper; first | (rw [if_pos (by decide +kernel)]; kernel_rfl) | (rw [if_neg (by decide +kernel)]; exact ⟨rfl, rfl⟩))
    (fun os started H enc _ => lifted P os started H enc)

end Go.Proofs.Ytckakkocblkcoaa.replayOrder
