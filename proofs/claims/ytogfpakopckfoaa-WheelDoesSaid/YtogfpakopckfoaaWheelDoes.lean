/- For all inputs the statement WheelDoes about wheel returns true, and changes nothing. Conditions: none. -/
import Derived.Test.YtogfpakopckfoaaWhF
import Derived.Test.YtogfpakopckfoaaWhO
import Derived.Test.YtogfpakopckfoaaWhO
import Derived.Test.YtogfpakopckfoaaMem
import Derived.ProofKit
import Derived.OpenShut
import Derived.ShutString
import Derived.SizedLaws
namespace Go.Proofs.Ytogfpakopckfoaa.wheelDoes
open Go.ChangeShapes Go.WideShapes Go.ChangeAt Go.RowKit Go.Lib Go.MapKept
open Go.ChangeMaps (open_string shut_string)
set_option linter.unusedVariables false

theorem own : ownKnob Try.prog.godebug = none := by kernel_rfl
theorem laid : laidOutB Try.prog = true := by kernel_rfl

set_option maxRecDepth 100000
open Wl Sp
theorem good0 (now : Int) (h : 0 ≤ now ∧ now < 18446744073709551616) : Wl.Good ⟨now, []⟩ := Good.new h
set_option maxHeartbeats 32000000 in
theorem walk {WI : Nat → Wh → Sp.Item} (P : Prg WI) (now : Int) (A : Option Addr) (n c : Nat) (L : List Opn) (w : World) (hw : 0 ≤ now ∧ now < 18446744073709551616) (hn : n ≤ maxLen) (hL : OR w A n L) (ho : ∀ x ∈ L, x.ok) :
    Calls Try.prog 3 #[.int .u64 now, .slice A n c] w fun e w' => e = .returned (.bool true) ∧ Below w.heap.size w w' := by
  have HP := Lib.hid P
  have HNW := Lib.hid hw
  have HN := Lib.hid hn
  have HL := Lib.hid hL
  have HO := Lib.hid ho
  clear P hw hn hL ho
  go_enter Try.func3, Try.ntmps3
  go_wp2_with fail
  refine (HP.out.nw now (Sp.Sep.nil (Below.refl _ _)) HNW.out).mono ?_
  rintro e' w1 ⟨g, rfl, s1⟩
  have S1 : Hid (Sp.Sep w (w1.alloc (.cells #[.int .u64 now, .slice none 0 0] 29)) [WI g ⟨now, []⟩, refI w1.heap.size ⟨now, []⟩]) := Lib.hid (ref_new s1 now)
  clear s1
  go_upto_region 2 with fail
  change Code.wp _ _ _ _ (w1.alloc (.cells #[.int .u64 now, .slice none 0 0] 29))
  generalize w1.alloc (.cells #[.int .u64 now, .slice none 0 0] 29) = w2 at *
  obtain ⟨b, eb⟩ : ∃ z, w1.heap.size = z := ⟨_, rfl⟩
  rw [eb] at S1 ⊢
  clear eb
  go_upto_region 5 with fail
  go_loopg [7] n (fun gk s7 wr => ∃ (q : Nat) (s : Wh), q ≤ n ∧ q ≤ 60 ∧ gk = n - q ∧ s7 = .int .i64 (q : Nat) ∧ Hid (Wl.Good s ∧ s.l.length ≤ q) ∧ Hid (Sp.Sep w wr [WI g s, refI b s]))
  case atStart => exact ⟨0, _, by omega, by omega, rfl, rfl, Lib.hid ⟨good0 now HNW.out, Nat.le_refl _⟩, S1⟩
  case round =>
    obtain ⟨q, s, hq, hq6, hgk, rfl, HG, HI⟩ := hrel
    have HGK := Lib.hid hgk
    clear hgk S1
    by_cases hlt : q < n
    · have hli : (q : Int) < (n : Int) := by omega
      by_cases h6 : q < 60
      · have hl6 : (q : Int) < 60 := by omega
        obtain ⟨o, ho⟩ : ∃ o, L[q]? = some o := ⟨_, List.getElem?_eq_getElem (by rw [← HL.out.len]; exact hlt)⟩
        obtain ⟨g1, of, rfl, hc⟩ := (HL.out.later HI.out.below).c (by omega)
        have x0 : wr.cell? ⟨g1, of + q * 4, none⟩ = some (.int .i64 o.k) := hc q o ho 0 (by decide)
        have x1 : wr.cell? ⟨g1, of + q * 4 + 1, none⟩ = some (.string o.i) := hc q o ho 1 (by decide)
        have x2 : wr.cell? ⟨g1, of + q * 4 + 2, none⟩ = some (.int .u64 o.t) := hc q o ho 2 (by decide)
        have x3 : wr.cell? ⟨g1, of + q * 4 + 3, none⟩ = some (.bool o.a) := hc q o ho 3 (by decide)
        have hok := HO.out o (List.mem_of_getElem? ho)
        have wi : IntKind.i64.wrap ((q : Int) + 1) = (q : Int) + 1 := IntWalk.i64_in _ (by omega)
        have HD := Lib.hid (do_any HP.out HI.out HG.out.1 (by have := HG.out.2; omega) o.k o.t o.i o.a hok.i hok.t)
        clear hc ho hok
        go_wp2_with fail
        refine HD.out.mono ?_
        rintro e' w3 ⟨rfl, s', hnx, h3⟩
        have HG3 : Hid (Wl.Good s' ∧ s'.l.length ≤ q + 1) := Lib.hid ⟨hnx.1, by have := hnx.2; have := HG.out.2; omega⟩
        have HI3 := Lib.hid h3
        clear hnx h3 HD x0 x1 x2 x3
        go_wp2_with fail
        go_roundg (n - (q + 1))
        case measure => have := HGK.out; omega
        case rel => exact ⟨q + 1, s', by omega, by omega, by have := HGK.out; omega, by go_num, HG3, HI3⟩
      · have hl6 : ¬ ((q : Int) < 60) := by omega
        go_wp2_with fail
        refine (fixed_any HP.out _).mono ?_
        rintro e' wf ⟨rfl, hbf⟩
        have BF := Lib.hid (HI.out.below.trans (hbf.mono HI.out.below.size))
        clear hbf
        go_wp2_with fail
        go_ret
        exact ⟨rfl, BF.out⟩
    · have hli : ¬ ((q : Int) < (n : Int)) := by omega
      go_wp2_with fail
      refine (fixed_any HP.out _).mono ?_
      rintro e' wf ⟨rfl, hbf⟩
      have BF := Lib.hid (HI.out.below.trans (hbf.mono HI.out.below.size))
      clear hbf
      go_wp2_with fail
      go_ret
      exact ⟨rfl, BF.out⟩

set_option maxRecDepth 100000 in
theorem lifted {WI : Nat → Wh → Sp.Item} (P : Prg WI) (os : Os) (started : os.Started) (H : Type) (enc : TypeId × Value → H) :
    ReturnsInHanded {} Try.checked os 3 .any (Rows.wheelDoesSpec.pre6 enc Try.prog Try.f3 Rows.wheelDoesRow.domain false) (Rows.wheelDoesSpec.post enc Try.prog Try.f3 false true false false) := by
  refine returnsInHanded_of_change (C := Try.checked) own started (by kernel_rfl) Try.func3
    (ChangeSpec.witness6 (enc := enc) (C := Try.checked) false ⟨#[], #[.int .u64 0, .slice none 0 0], []⟩ 8 (by kernel_rfl) (by kernel_rfl) (by kernel_rfl) (by kernel_rfl)) ?_
  intro W base args ds gs before hval0 hW hcnd _
  have hval : ∀ (j : Nat) t v, Try.f3.params[j]? = some t → args[j]? = some v → Value.okWide Try.prog W .any base t v := hval0
  have hW' := hW
  obtain ⟨p, q, hA0, hV, rfl, hfz, hnd⟩ := hW
  have hA : DataW.TrodAll enc Try.prog W 0 (fun _ => true) true Try.f3.params.toList args.toList ds p := hA0
  rw [Try.params3] at hA hval
  obtain ⟨v0, vs0, d0, ds0, p0, q0, hargs, rfl, rfl, h0, r0⟩ := trodAll_cons hA
  obtain ⟨v1, vs1, d1, ds1, p1, q1, rfl, rfl, rfl, h1, r1⟩ := trodAll_cons r0
  obtain ⟨rfl, rfl, rfl⟩ := trodAll_nil r1
  obtain rfl : args = #[v0, v1] := by cases args; simp_all
  obtain ⟨rfl, rfl⟩ := trodVars_none hV
  obtain ⟨a0, rfl, rfl, rfl, w0⟩ := open_int Try.underlying22 (hval 0 22 v0 rfl rfl) h0
  obtain ⟨A1, n1, c1, L1, rfl, hn1, hL1, ho1⟩ := open_opns (hval 1 23 v1 rfl rfl) h1
  clear hA0 hval0
  try simp only [List.append_nil] at hW'
  try simp only [List.nil_append] at hW'
  have hlt := fun x hx => hW'.lt x hx
  refine (walk P a0 A1 n1 c1 L1 W (u64_of w0) hn1 hL1 ho1).mono fun e W' ⟨he, hg⟩ => ?_
  subst he
  refine ⟨_, rfl, post_mem hW' (fun _ _ _ => (trodAll_cons_mk (shut_bool Try.underlying4 _) trodAll_mk0)) (fun sp hsp => ?_) (fun _ => rfl) hg (ok_one (by kernel_rfl) rfl (okWide_bool_mk Try.underlying4 _))⟩
  have hall := (trodAll_cons_mk (arg_same (sp := sp) laid (by kernel_rfl) (of_decide_eq_true (by kernel_rfl)) h0 hg (by intro x hx; simp_all) hlt hsp) (trodAll_cons_mk (arg_same (sp := sp) laid (by kernel_rfl) (of_decide_eq_true (by kernel_rfl)) h1 hg (by intro x hx; simp_all) hlt hsp) trodAll_mk0))
  try simp only [List.append_nil] at hall
  try simp only [List.nil_append] at hall
  exact hall

theorem over {WI : Nat → Wh → Sp.Item} (P : Prg WI) : Rows.wheelDoesRow.holds Try.pinned (OpenSpec.ofChange Rows.wheelDoesSpec) :=
  OpenClaim.holds_of_wide 3 Try.f3 rfl rfl rfl rfl rfl rfl rfl ⟨rfl, rfl, rfl, rfl, rfl⟩ rfl rfl rfl rfl rfl (by kernel_rfl) Try.func3 (by kernel_rfl)
    (of_decide_eq_true (by kernel_rfl)) (by unfold Func.isWrapper; first | (rw [if_pos (by decide +kernel)]; kernel_rfl) | (rw [if_neg (by decide +kernel)]; exact ⟨rfl, rfl⟩))
    (fun os started H enc _ => lifted P os started H enc)

end Go.Proofs.Ytogfpakopckfoaa.wheelDoes
