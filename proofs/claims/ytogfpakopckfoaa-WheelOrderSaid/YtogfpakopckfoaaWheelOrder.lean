/- For all inputs the statement WheelOrder about wheel returns true, and changes nothing. Conditions: none. -/
import Derived.Test.YtogfpakopckfoaaWhP
import Derived.Test.YtogfpakopckfoaaClass
import Derived.Deep.RegionWith
import Derived.BigQuiet
import Derived.Test.YtogfpakopckfoaaWhO
import Derived.Test.YtogfpakopckfoaaMem
import Derived.ProofKit
import Derived.OpenShut
import Derived.ShutString
import Derived.SizedLaws
namespace Go.Proofs.Ytogfpakopckfoaa.wheelOrder
open Go.ChangeShapes Go.WideShapes Go.ChangeAt Go.RowKit Go.Lib Go.MapKept
open Go.ChangeMaps (open_string shut_string)
set_option linter.unusedVariables false

theorem own : ownKnob Try.prog.godebug = none := by kernel_rfl
theorem laid : laidOutB Try.prog = true := by kernel_rfl

set_option maxRecDepth 100000
open Wl Sp
def cO (j : Nat) : Nat := 122 - j
theorem adv_top {s : Wh} (h : Wl.Good s) : dueL s.l (max s.t 18446744073709551615) = s.l ∧ (advW s 18446744073709551615).l = [] := by
  have hm : max s.t 18446744073709551615 = 18446744073709551615 := by have := h.t; omega
  constructor
  · rw [hm]
    exact List.filter_eq_self.2 fun a ha => by have := h.d a ha; simp; omega
  · show rest s.l _ = []
    rw [hm]
    exact List.filter_eq_nil_iff.2 fun a ha => by have := h.d a ha; simp; omega
theorem due_sum {l : List Tm} (h : Ok l) (t : Int) : (dueL l t).length + (rest l t).length = l.length := by
  rw [← List.length_append, due_join h t]
theorem step_ord {l : List Tm} (h : Ok l) {p : Nat} {a b : Tm} (ha : l[p]? = some a) (hb : l[p + 1]? = some b) : ahd a b = true := by
  have hp := List.pairwise_iff_getElem.1 h.s
  have a1 := List.getElem?_eq_some_iff.1 ha
  have a2 := List.getElem?_eq_some_iff.1 hb
  have := hp p (p + 1) a1.1 a2.1 (by omega)
  rwa [a1.2, a2.2] at this
set_option maxHeartbeats 16000000 in
theorem walk {WI : Nat → Wh → Sp.Item} (P : Prg WI) (tz : Int) (A : Option Addr) (n c : Nat) (f : Nat → Int) (w : World) (hto : 0 ≤ tz ∧ tz < 18446744073709551616) (hn : n ≤ maxLen) (hL : CellsIn w A n (fun j => .int .u64 (f j))) (hf : ∀ j, j < n → 0 ≤ f j ∧ f j < 18446744073709551616) :
    Calls Try.prog 9 #[.slice A n c, .int .u64 tz] w fun e w' => e = .returned (.bool true) ∧ Below w.heap.size w w' := by
  have HP := Lib.hid P
  have HNW : Hid (0 ≤ (0 : Int) ∧ (0 : Int) < 18446744073709551616) := Lib.hid (by decide)
  have HTO := Lib.hid hto
  have HN := Lib.hid hn
  have HL := Lib.hid hL
  have HF := Lib.hid hf
  obtain ⟨m, em⟩ : ∃ z, min n 26 = z := ⟨_, rfl⟩
  have hm1 : (min (n : Int) 26) = (m : Int) := by omega
  have hmn : m ≤ n ∧ m ≤ 26 := by omega
  have HM := Lib.hid hmn
  clear P hto hn hL hf em
  go_enter Try.func9, Try.ntmps9
  go_wp2_with fail
  refine (HP.out.nw 0 (Sp.Sep.nil (Below.refl _ _)) HNW.out).mono ?_
  rintro e' w1 ⟨g, rfl, s1⟩
  have S1 : Hid (Sp.Sep w w1 [WI g ⟨0, []⟩]) := Lib.hid s1
  clear s1
  go_upto_region 6 with fail
  clear hm1 hmn
  go_loopg [7] m (fun gk s7 wr => ∃ (q : Nat) (s : Wh), q ≤ m ∧ gk = m - q ∧ s7 = .int .i64 (q : Nat) ∧ Hid (SetL 0 cO f q s) ∧ Hid (Sp.Sep w wr [WI g s]))
  case atStart => exact ⟨0, _, by omega, rfl, rfl, Lib.hid (SetL.start _ _ HNW.out), S1⟩
  case round =>
    obtain ⟨q, s, hq, hgk, rfl, HS, HI⟩ := hrel
    have HGK := Lib.hid hgk
    clear hgk S1
    by_cases hlt : q < m
    · have hli : (q : Int) < (m : Int) := by omega
      have wi : IntKind.i64.wrap ((q : Int) + 1) = (q : Int) + 1 := IntWalk.i64_in _ (by have := HM.out; omega)
      have hqn : q < n := by have := HM.out; omega
      have hqi : (q : Int) < (n : Int) := by omega
      obtain ⟨ga, o, rfl, _, hc⟩ := HL.out (by omega)
      have hcell := (HI.out.below.cell (World.block_lt_of_cell? _ _ (hc q hqn))).trans (hc q hqn)
      have c1 : IntKind.i64.wrap (122 - (q : Int)) = ((122 - q : Nat) : Int) := by rw [show (122 : Int) - (q : Int) = ((122 - q : Nat) : Int) by have := HM.out; omega]; exact IntWalk.i64_in _ (by have := HM.out; omega)
      have c2 : IntKind.u8.wrap ((122 - q : Nat) : Int) = ((122 - q : Nat) : Int) := IntWalk.u8_in _ (by have := HM.out; omega)
      obtain ⟨k, ek⟩ : ∃ z, 122 - q = z := ⟨_, rfl⟩
      rw [ek] at c1 c2
      have hk : k < 256 := by have := HM.out; omega
      have hcv : (convert 52 9 (.slice (some ⟨wr.heap.size, 0, none⟩) 1 1)).run Try.prog (wr.alloc (.cells #[.int .u8 (k : Nat)] 5)).drew = .ok (.string (chr k)) (wr.alloc (.cells #[.int .u8 (k : Nat)] 5)).drew := chr_conv _ _ k hk ((Sp.Blk.new wr 5 #[.int .u8 (k : Nat)]).cell 0)
      have hcell2 : (wr.alloc (.cells #[.int .u8 (k : Nat)] 5)).drew.cell? ⟨ga, o + q, none⟩ = some (.int .u64 (f q)) := ((below1 wr (.cells #[.int .u8 (k : Nat)] 5)).cell (World.block_lt_of_cell? _ _ hcell)).trans hcell
      have HST := Lib.hid (HP.out.st (chr k) (f q) ((HI.out.alloc (.cells #[.int .u8 (k : Nat)] 5)).drew) (k := 0) rfl HS.out.g (by rw [HS.out.p.length_eq, tmL_len]; have := HM.out; omega) (HF.out q hqn) (chr_size k))
      clear hc
      go_upto_region 8 with fail
      go_region_with (first | (go_at_call 15; refine HST.out.mono ?_; rintro e' w3 ⟨rfl, h3⟩))
      all_goals
        have HS3 := Lib.hid (HS.out.next (fun j hj => by unfold cO; have := HM.out; omega) (by unfold cO; have := HM.out; omega) (HF.out q hqn) (by have := HM.out; omega))
        have HI3 : Hid (Sp.Sep w w3 [WI g (setW s (chr (cO q)) (f q))]) := Lib.hid (by rw [show cO q = k from ek]; exact h3)
        clear h3 HST hcv hcell hcell2
        go_wp2_with fail
        go_roundg (m - (q + 1))
        case measure => have := HGK.out; omega
        case rel => exact ⟨q + 1, _, by omega, by have := HGK.out; omega, by go_num, HS3, HI3⟩
    · obtain rfl : m = q := by omega
      have HGS := Lib.hid HS.out.g
      go_wp2_with fail
      refine (HP.out.ad tz HI.out (k := 0) rfl HGS.out HTO.out).mono ?_
      rintro e' w4 ⟨A4, p4, rfl, h4⟩
      have hmx : max s.t tz = tz := by rw [HS.out.t]; have := HTO.out; omega
      rw [hmx] at h4
      rw [hmx]
      have HG2 := Lib.hid (HGS.out.adv HTO.out)
      have HSUM : Hid ((dueL s.l tz).length + (advW s tz).l.length = m) := Lib.hid (by
        show _ + (rest s.l (max s.t tz)).length = m
        rw [hmx, due_sum HGS.out.ok, HS.out.p.length_eq, tmL_len])
      have HDO := Lib.hid (HGS.out.ok.filter (fun a => decide (a.d ≤ tz)))
      have HDL : Hid (∀ a ∈ dueL s.l tz, a.d ≤ tz) := Lib.hid (fun a ha => (due_mem.1 ha).2)
      obtain ⟨s2, es2⟩ : ∃ z, advW s tz = z := ⟨_, rfl⟩
      rw [es2] at h4 HG2 HSUM
      change Hid (Ok (dueL s.l tz)) at HDO
      obtain ⟨D, eD⟩ : ∃ z, dueL s.l tz = z := ⟨_, rfl⟩
      rw [eD] at h4 HSUM HDO HDL ⊢
      have S4 : Hid (Sp.Sep w w4 [WI g s2, trI A4 D.length D]) := Lib.hid h4
      obtain ⟨d, ed⟩ : ∃ z, D.length = z := ⟨_, rfl⟩
      rw [ed] at S4 HSUM ⊢
      have hd26 : d ≤ 26 := by have := HSUM.out; have := HM.out; omega
      have HDM := Lib.hid hd26
      clear h4 es2 eD hmx HS HI HGS hlt hq ed hd26
      go_wp2_with fail
      refine (timers_any (tr_at S4.out (k := 1) rfl) (by have := HDM.out; omega)).mono ?_
      rintro e' w5 ⟨A5, p5, rfl, r5, hb5⟩
      have S5 := Lib.hid (S4.out.later hb5)
      have R5 := Lib.hid r5
      clear S4 r5 hb5
      go_upto_region 11 with fail
      go_loopg [9] d (fun gk s9 wr => ∃ (q : Nat), q ≤ d ∧ gk = d - q ∧ s9 = .int .i64 (q : Nat) ∧ Hid (Below w5.heap.size w5 wr))
      case atStart => exact ⟨0, by omega, rfl, rfl, Lib.hid (Below.refl _ _)⟩
      case round =>
        obtain ⟨q, hq, hgk, rfl, HW⟩ := hrel
        have HGK := Lib.hid hgk
        clear hgk
        by_cases hlt : q < d
        · have hli : (q : Int) < (d : Int) := by omega
          have wi : IntKind.i64.wrap ((q : Int) + 1) = (q : Int) + 1 := IntWalk.i64_in _ (by have := HDM.out; omega)
          obtain ⟨b, hb⟩ : ∃ r, D[q]? = some r := ⟨_, List.getElem?_eq_getElem (by rw [← R5.out.len]; exact hlt)⟩
          obtain ⟨ga, o, rfl, hca⟩ := (R5.out.later HW.out).c (by omega)
          have x1 := (hca q b hb).2
          have x0 := (hca q b hb).1
          have g1 : decide (tz < b.d) = false := decide_eq_false (by have := HDL.out b (List.mem_of_getElem? hb); omega)
          have HBN : Hid (∀ z, Below w5.heap.size w5 (wr.drewN z)) := Lib.hid (fun z => below_drewN HW.out z)
          rcases Nat.eq_zero_or_pos q with h0 | h0
          · have H0 := Lib.hid h0
            have g0 : decide (0 < q) = false := decide_eq_false (by omega)
            clear h0 hca hb
            go_upto_region 13 with fail
            go_quiet (fail)
            clear x0 x1 g1 g0
            go_wp2_with fail
            go_roundg (d - (q + 1))
            case measure => have := HGK.out; omega
            case rel => exact ⟨q + 1, by omega, by have := HGK.out; omega, by go_num, Lib.hid (HBN.out _)⟩
          · have g0 : decide (0 < q) = true := decide_eq_true (by omega)
            obtain ⟨p, hp⟩ : ∃ p, q = p + 1 := ⟨q - 1, by omega⟩
            have wp1 : IntKind.i64.wrap ((q : Int) - 1) = (p : Int) := by rw [show (q : Int) - 1 = (p : Int) by omega]; exact IntWalk.i64_in _ (by have := HDM.out; omega)
            have hlp : (p : Int) < (d : Int) := by omega
            have hlp2 : p < d := by omega
            obtain ⟨a, ha⟩ : ∃ r, D[p]? = some r := ⟨_, List.getElem?_eq_getElem (by rw [← R5.out.len]; exact hlp2)⟩
            have y1 := (hca p a ha).2
            have y0 := (hca p a ha).1
            have hah := ahd_iff.1 (step_ord HDO.out ha (by rw [← hp]; exact hb))
            clear h0 hca hb ha hp
            by_cases h1 : a.d < b.d
            · have g2 : decide (a.d < b.d) = true := decide_eq_true h1
              clear hah h1
              go_upto_region 13 with fail
              go_quiet (fail)
              clear x0 x1 y0 y1 g1 g0 g2 hlp hlp2 wp1
              go_wp2_with fail
              go_roundg (d - (q + 1))
              case measure => have := HGK.out; omega
              case rel => exact ⟨q + 1, by omega, by have := HGK.out; omega, by go_num, Lib.hid (HBN.out _)⟩
            · have g2 : decide (a.d < b.d) = false := decide_eq_false h1
              have hah2 := hah.resolve_left h1
              have g3 : ((a.d : Int) == b.d) = true := by simpa using hah2.1
              have g4 : Op.bytesLess a.i.toList b.i.toList = true := key_lt.trans (decide_eq_true hah2.2)
              clear hah hah2 h1
              go_upto_region 13 with fail
              go_quiet (fail)
              clear x0 x1 y0 y1 g1 g0 g2 g3 g4 hlp hlp2 wp1
              go_wp2_with fail
              go_roundg (d - (q + 1))
              case measure => have := HGK.out; omega
              case rel => exact ⟨q + 1, by omega, by have := HGK.out; omega, by go_num, Lib.hid (HBN.out _)⟩
        · obtain rfl : d = q := by omega
          have S6 := Lib.hid (S5.out.later HW.out)
          have HTP := Lib.hid (adv_top HG2.out)
          have HMX : Hid (0 ≤ (18446744073709551615 : Int) ∧ (18446744073709551615 : Int) < 18446744073709551616) := Lib.hid (by decide)
          have HG3 := Lib.hid (HG2.out.adv HMX.out)
          clear S5 R5 hq hlt HW HDO HDL
          go_wp2_with fail
          refine (HP.out.ad 18446744073709551615 S6.out (k := 0) rfl HG2.out HMX.out).mono ?_
          rintro e' w7 ⟨A7, p7, rfl, h7⟩
          rw [HTP.out.1] at h7
          obtain ⟨k, ek⟩ : ∃ z, s2.l.length = z := ⟨_, rfl⟩
          obtain ⟨s3, es3⟩ : ∃ z, advW s2 18446744073709551615 = z := ⟨_, rfl⟩
          have HT3 : Hid (s3.l = []) := Lib.hid (by rw [← es3]; exact HTP.out.2)
          rw [es3] at h7 HG3
          rw [ek] at h7 HSUM
          have S7 : Hid (Sp.Sep w w7 [WI g s3, trI A4 d D, trI A7 k s2.l]) := Lib.hid h7
          simp only [HTP.out.1, ek]
          clear h7 S6 HTP HG2 es3 ek
          go_wp2_with fail
          refine (timers_any (tr_at S7.out (k := 2) rfl) (by have := HSUM.out; have := HM.out; omega)).mono ?_
          rintro e' w8 ⟨A8, p8, rfl, _, hb8⟩
          have S8 := Lib.hid (S7.out.later hb8)
          have wsm : IntKind.i64.wrap ((d : Int) + (k : Int)) = (m : Int) := by rw [show (d : Int) + (k : Int) = (m : Int) by have := HSUM.out; omega]; exact IntWalk.i64_in _ (by have := HM.out; omega)
          have qm : ((m : Int) == (m : Int)) = true := by simp
          clear hb8 S7
          go_wp2_with fail
          refine (HP.out.ln S8.out (k := 0) rfl HG3.out).mono ?_
          rintro e' w9 ⟨he, hb9⟩
          rw [HT3.out] at he
          replace he : e' = .returned (.int .i64 0) := he
          subst he
          have S9 := Lib.hid (S8.out.later hb9)
          clear hb9 S8 qm wsm
          go_wp2_with fail
          refine (HP.out.ad 0 S9.out (k := 0) rfl HG3.out HNW.out).mono ?_
          rintro e' wa ⟨Aa, pa, rfl, ha⟩
          rw [HT3.out] at ha
          have HG4 := Lib.hid (HG3.out.adv HNW.out)
          have Sa : Hid (Sp.Sep w wa [WI g (advW s3 0), trI A4 d D, trI A7 k s2.l, trI Aa 0 []]) := Lib.hid ha
          rw [HT3.out]
          simp only [dueL, List.filter_nil, List.length_nil]
          clear ha S9
          go_wp2_with fail
          refine (timers_any (tr_at Sa.out (k := 3) rfl) (by decide)).mono ?_
          rintro e' wb ⟨Ab, pb, rfl, rb, hbb⟩
          have Sb := Lib.hid (Sa.out.later hbb)
          have HQ := Lib.hid (fun p q => same_yes (p := p) (q := q) rb (TR.nil wb none) (by decide))
          clear hbb Sa rb
          go_wp2_with fail
          refine (HQ.out _ _).mono ?_
          rintro e' wc ⟨rfl, hbc⟩
          have Sc := Lib.hid (Sb.out.later hbc)
          clear hbc HQ Sb
          go_wp2_with fail
          refine (fixed_any HP.out _).mono ?_
          rintro e' wd ⟨rfl, hbd⟩
          have BD := Lib.hid (Sc.out.below.trans (hbd.mono Sc.out.below.size))
          clear hbd Sc
          go_wp2_with fail
          go_ret
          exact ⟨rfl, BD.out⟩

set_option maxRecDepth 100000 in
theorem lifted {WI : Nat → Wh → Sp.Item} (P : Prg WI) (os : Os) (started : os.Started) (H : Type) (enc : TypeId × Value → H) :
    ReturnsInHanded {} Try.checked os 9 .any (Rows.wheelOrderSpec.pre6 enc Try.prog Try.f9 Rows.wheelOrderRow.domain false) (Rows.wheelOrderSpec.post enc Try.prog Try.f9 false true false false) := by
  refine returnsInHanded_of_change (C := Try.checked) own started (by kernel_rfl) Try.func9
    (ChangeSpec.witness6 (enc := enc) (C := Try.checked) false ⟨#[], #[.slice none 0 0, .int .u64 0], []⟩ 8 (by kernel_rfl) (by kernel_rfl) (by kernel_rfl) (by kernel_rfl)) ?_
  intro W base args ds gs before hval0 hW hcnd _
  have hval : ∀ (j : Nat) t v, Try.f9.params[j]? = some t → args[j]? = some v → Value.okWide Try.prog W .any base t v := hval0
  have hW' := hW
  obtain ⟨p, q, hA0, hV, rfl, hfz, hnd⟩ := hW
  have hA : DataW.TrodAll enc Try.prog W 0 (fun _ => true) true Try.f9.params.toList args.toList ds p := hA0
  rw [Try.params9] at hA hval
  obtain ⟨v0, vs0, d0, ds0, p0, q0, hargs, rfl, rfl, h0, r0⟩ := trodAll_cons hA
  obtain ⟨v1, vs1, d1, ds1, p1, q1, rfl, rfl, rfl, h1, r1⟩ := trodAll_cons r0
  obtain ⟨rfl, rfl, rfl⟩ := trodAll_nil r1
  obtain rfl : args = #[v0, v1] := by cases args; simp_all
  obtain ⟨rfl, rfl⟩ := trodVars_none hV
  obtain ⟨A0, n0, c0, f0, rfl, hn0, hc0, hw0⟩ := open_nums Try.underlying39 Try.underlying22 (by kernel_rfl) (hval 0 39 v0 rfl rfl) h0
  obtain ⟨a1, rfl, rfl, rfl, w1⟩ := open_int Try.underlying22 (hval 1 22 v1 rfl rfl) h1
  clear hA0 hval0
  try simp only [List.append_nil] at hW'
  try simp only [List.nil_append] at hW'
  have hlt := fun x hx => hW'.lt x hx
  refine (walk P a1 A0 n0 c0 f0 W (u64_of w1) hn0 hc0 (fun j hj => u64_of (hw0 j hj))).mono fun e W' ⟨he, hg⟩ => ?_
  subst he
  refine ⟨_, rfl, post_mem hW' (fun _ _ _ => (trodAll_cons_mk (shut_bool Try.underlying4 _) trodAll_mk0)) (fun sp hsp => ?_) (fun _ => rfl) hg (ok_one (by kernel_rfl) rfl (okWide_bool_mk Try.underlying4 _))⟩
  have hall := (trodAll_cons_mk (arg_same (sp := sp) laid (by kernel_rfl) (of_decide_eq_true (by kernel_rfl)) h0 hg (by intro x hx; simp_all) hlt hsp) (trodAll_cons_mk (arg_same (sp := sp) laid (by kernel_rfl) (of_decide_eq_true (by kernel_rfl)) h1 hg (by intro x hx; simp_all) hlt hsp) trodAll_mk0))
  try simp only [List.append_nil] at hall
  try simp only [List.nil_append] at hall
  exact hall

theorem over {WI : Nat → Wh → Sp.Item} (P : Prg WI) : Rows.wheelOrderRow.holds Try.pinned (OpenSpec.ofChange Rows.wheelOrderSpec) :=
  OpenClaim.holds_of_wide 9 Try.f9 rfl rfl rfl rfl rfl rfl rfl ⟨rfl, rfl, rfl, rfl, rfl⟩ rfl rfl rfl rfl rfl (by kernel_rfl) Try.func9 (by kernel_rfl)
    (of_decide_eq_true (by kernel_rfl)) (by unfold Func.isWrapper; first | (rw [if_pos (by decide +kernel)]; kernel_rfl) | (rw [if_neg (by decide +kernel)]; exact ⟨rfl, rfl⟩))
    (fun os started H enc _ => lifted P os started H enc)

end Go.Proofs.Ytogfpakopckfoaa.wheelOrder
