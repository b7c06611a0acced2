/- For all inputs the statement WheelCancel about wheel returns true, and changes nothing. Conditions: none. -/
import Derived.Test.YtogfpakopckfoaaWhK
import Derived.Test.YtogfpakopckfoaaWhO
import Derived.Test.YtogfpakopckfoaaMem
import Derived.Laws.Cover1
import Derived.Test.YtogfpakopckfoaaArr
import Derived.ProofKit
import Derived.OpenShut
import Derived.ShutString
import Derived.SizedLaws
namespace Go.Proofs.Ytogfpakopckfoaa.wheelCancel
open Go.ChangeShapes Go.WideShapes Go.ChangeAt Go.RowKit Go.Lib Go.MapKept
open Go.ChangeMaps (open_string shut_string)
set_option linter.unusedVariables false

theorem own : ownKnob Try.prog.godebug = none := by kernel_rfl
theorem laid : laidOutB Try.prog = true := by kernel_rfl

set_option maxRecDepth 100000
open Wl Sp
theorem cellsE1 : Try.prog.cellsOf 53 = 1 := by kernel_rfl
theorem cellsT1 : Try.prog.cellsOf 55 = 3 := by kernel_rfl
theorem open_arr3 {H : Type} {enc : TypeId × Value → H} {P : Program} {w : World} {base : Nat} {spare : Nat → Bool} {held : Bool} {r : Reach} {b0 : Nat} {t e : TypeId} {k : IntKind} {v : Value} {d : DataW H} {ps : List MemPlace} (ht : P.underlying t = some (.array 3 e)) (he : P.underlying e = some (.int k)) (hce : P.cellsOf e = 1) (hct : P.cellsOf t = 3)
    (hval : Value.okWide P w r b0 t v) (hd : DataW.Trod enc P w base spare held t v d ps) :
    ∃ x0 x1 x2, v = .agg #[.int k x0, .int k x1, .int k x2] ∧ d = .agg [.lit (.int k x0), .lit (.int k x1), .lit (.int k x2)] ∧ ps = [] ∧ (Lit.int k x0).wf = true ∧ (Lit.int k x1).wf = true ∧ (Lit.int k x2).wf = true := by
  obtain ⟨zs, hn, hv, hd', hp, hw⟩ := open_arr ht he hce hct hval hd
  match zs, hn with
  | [x0, x1, x2], _ => exact ⟨x0, x1, x2, hv, hd', hp, hw x0 (by simp), hw x1 (by simp), hw x2 (by simp)⟩
abbrev cX : ByteArray := ⟨#[120]⟩
abbrev cY : ByteArray := ⟨#[121]⟩
theorem ne_xy : cX.toList ≠ cY.toList := by simp only [Lib.toList_data]; decide
theorem st1 (t x : Int) : setW ⟨t, []⟩ cX x = ⟨t, [⟨cX, x⟩]⟩ := rfl
theorem st2 (t x y : Int) : (find [⟨cX, x⟩] cY.toList).isSome = false ∧ ∃ l, setW ⟨t, [⟨cX, x⟩]⟩ cY y = ⟨t, l⟩ ∧ (find l cX.toList).isSome = true ∧ canW ⟨t, l⟩ cX = ⟨t, [⟨cY, y⟩]⟩ ∧ l.length = 2 := by
  have h1 : rem [⟨cX, x⟩] cY.toList = [⟨cX, x⟩] := by simp [rem, Tm.key]
  refine ⟨by simp [find, Tm.key], ins ⟨cY, y⟩ [⟨cX, x⟩], by unfold setW; rw [h1], ?_, ?_, by rw [ins_len]; rfl⟩
  · cases hf : find (ins ⟨cY, y⟩ [⟨cX, x⟩]) cX.toList with
    | some q => rfl
    | none => exact absurd rfl (find_none.1 hf ⟨cX, x⟩ (mem_ins.2 (.inr (List.mem_cons_self ..))))
  · show (⟨t, rem _ _⟩ : Wh) = _
    congr 1
    unfold ins
    by_cases h : ahd ⟨cX, x⟩ ⟨cY, y⟩ = true
    · simp [h, rem, Tm.key]
    · simp [h, rem, Tm.key]
theorem st3 (t y z : Int) : (find [⟨cY, y⟩] cX.toList).isSome = false ∧ canW ⟨t, [⟨cY, y⟩]⟩ cX = ⟨t, [⟨cY, y⟩]⟩ ∧ (find [⟨cY, y⟩] cY.toList).isSome = true ∧ setW ⟨t, [⟨cY, y⟩]⟩ cY z = ⟨t, [⟨cY, z⟩]⟩ := by
  refine ⟨by simp [find, Tm.key], by simp [canW, rem, Tm.key], by simp [find, Tm.key], ?_⟩
  have h : rem [⟨cY, y⟩] cY.toList = [] := by simp [rem, Tm.key]
  unfold setW
  rw [h]
  rfl
theorem st4 (t zm z : Int) (h1 : t ≤ zm) (h2 : zm < z) : advW ⟨t, [⟨cY, z⟩]⟩ zm = ⟨zm, [⟨cY, z⟩]⟩ ∧ dueL [⟨cY, z⟩] (max t zm) = [] := by
  have h : max t zm = zm := by omega
  have h3 : ¬ z ≤ zm := by omega
  constructor
  · simp [advW, rest, h, h2]
  · simp [dueL, h, h3]
theorem st5 (zm z : Int) (h2 : zm < z) : advW ⟨zm, [⟨cY, z⟩]⟩ z = ⟨z, []⟩ ∧ dueL [⟨cY, z⟩] (max zm z) = [⟨cY, z⟩] := by
  have h : max zm z = z := by omega
  constructor
  · simp [advW, rest, h]
  · simp [dueL, h]
theorem st6 (z m : Int) : ∃ t, advW ⟨z, []⟩ m = ⟨t, []⟩ ∧ dueL [] (max z m) = [] := ⟨max z m, rfl, rfl⟩
set_option maxHeartbeats 32000000 in
theorem walk {WI : Nat → Wh → Sp.Item} (P : Prg WI) (now a b c : Int) (w : World) (hn : 0 ≤ now ∧ now < 18446744073709551616) (ha : 0 ≤ a ∧ a ≤ 4294967295) (hb : 0 ≤ b ∧ b ≤ 4294967295) (hc : 0 ≤ c ∧ c ≤ 4294967295) :
    Calls Try.prog 7 #[.int .u64 now, .agg #[.int .u32 a, .int .u32 b, .int .u32 c]] w fun e w' => e = .returned (.bool true) ∧ Below w.heap.size w w' := by
  have HP := Lib.hid P
  have HNW := Lib.hid hn
  have B0 := below1 w (.cells #[.int .u32 a, .int .u32 b, .int .u32 c] 55)
  have BK := Sp.Blk.new w 55 #[.int .u32 a, .int .u32 b, .int .u32 c]
  go_enter Try.func7, Try.ntmps7
  go_upto_region 1 with fail
  change Code.wp _ _ _ _ (w.alloc (.cells #[.int .u32 a, .int .u32 b, .int .u32 c] 55))
  obtain ⟨b3, eb3⟩ : ∃ z, w.heap.size = z := ⟨_, rfl⟩
  rw [eb3] at BK ⊢
  have x0 := BK.cell 0
  have x1 := BK.cell 1
  have x2 := BK.cell 2
  have HB0 := Lib.hid B0
  have hsz : w.heap.size ≤ w.heap.size := Nat.le_refl _
  clear eb3 B0 BK P
  generalize w.alloc (.cells #[.int .u32 a, .int .u32 b, .int .u32 c] 55) = w0 at *
  simp at x0 x1 x2
  have HBN : Hid (∀ q, Below w.heap.size w (w0.drewN q)) := Lib.hid (fun q => below_drewN HB0.out q)
  have HA := Lib.hid (And.intro ha (And.intro hb hc))
  clear hn ha hb hc
  go_quiet (fail)
  clear x0 x1 x2
  go_wp2_with fail
  refine (HP.out.nw now (Sp.Sep.nil (HBN.out _)) HNW.out).mono ?_
  rintro e' w1 ⟨g, rfl, s1⟩
  have S1 : Hid (Sp.Sep w w1 [WI g ⟨now, []⟩]) := Lib.hid s1
  clear s1 HBN HB0
  by_cases hbig : 4611686018427387904 < now
  · have hbd : decide (4611686018427387904 < now) = true := decide_eq_true hbig
    go_wp2_with fail
    refine (fixed_any HP.out _).mono ?_
    rintro e' w2 ⟨rfl, hb2⟩
    have B2 := Lib.hid (S1.out.below.trans (hb2.mono S1.out.below.size))
    clear hb2
    go_wp2_with fail
    go_ret
    exact ⟨rfl, B2.out⟩
  · have hbd : decide (4611686018427387904 < now) = false := decide_eq_false hbig
    obtain ⟨n1, en1⟩ : ∃ z, now + 1 = z := ⟨_, rfl⟩
    obtain ⟨x, ex⟩ : ∃ z, n1 + a = z := ⟨_, rfl⟩
    obtain ⟨y, ey⟩ : ∃ z, n1 + b = z := ⟨_, rfl⟩
    obtain ⟨z, ez⟩ : ∃ z, n1 + c = z := ⟨_, rfl⟩
    obtain ⟨zm, ezm⟩ : ∃ q, z - 1 = q := ⟨_, rfl⟩
    obtain ⟨m, em⟩ : ∃ q, max (max x y) z = q := ⟨_, rfl⟩
    obtain ⟨m1, em1⟩ : ∃ q, m + 1 = q := ⟨_, rfl⟩
    have hm : m = x ∨ m = y ∨ m = z := by omega
    have w1e : IntKind.u64.wrap (now + 1) = n1 := by rw [en1]; exact IntWalk.u64_in _ (by have := HNW.out; omega)
    have wa : IntKind.u64.wrap a = a := IntWalk.u64_in _ (by have := HA.out; omega)
    have wb : IntKind.u64.wrap b = b := IntWalk.u64_in _ (by have := HA.out; omega)
    have wc : IntKind.u64.wrap c = c := IntWalk.u64_in _ (by have := HA.out; omega)
    have wx : IntKind.u64.wrap (n1 + a) = x := by rw [ex]; exact IntWalk.u64_in _ (by have := HA.out; have := HNW.out; omega)
    have wy : IntKind.u64.wrap (n1 + b) = y := by rw [ey]; exact IntWalk.u64_in _ (by have := HA.out; have := HNW.out; omega)
    have wz : IntKind.u64.wrap (n1 + c) = z := by rw [ez]; exact IntWalk.u64_in _ (by have := HA.out; have := HNW.out; omega)
    have wzm : IntKind.u64.wrap (z - 1) = zm := by rw [ezm]; exact IntWalk.u64_in _ (by have := HA.out; have := HNW.out; omega)
    have wm1 : IntKind.u64.wrap (m + 1) = m1 := by rw [em1]; exact IntWalk.u64_in _ (by have := HA.out; have := HNW.out; omega)
    have HX := Lib.hid (show 0 ≤ x ∧ x < 18446744073709551616 by have := HA.out; have := HNW.out; omega)
    have HY := Lib.hid (show 0 ≤ y ∧ y < 18446744073709551616 by have := HA.out; have := HNW.out; omega)
    have HZ := Lib.hid (show 0 ≤ z ∧ z < 18446744073709551616 by have := HA.out; have := HNW.out; omega)
    have HZM := Lib.hid (show 0 ≤ zm ∧ zm < 18446744073709551616 by have := HA.out; have := HNW.out; omega)
    have HM1 := Lib.hid (show 0 ≤ m1 ∧ m1 < 18446744073709551616 by have := HA.out; have := HNW.out; omega)
    have HT := Lib.hid (show now ≤ zm ∧ zm < z by have := HA.out; omega)
    have hmx3 : ∀ W, (Builtin.max_ #[22, 22, 22] 22 #[.int .u64 x, .int .u64 y, .int .u64 z]).run Try.prog W = .ok (.int .u64 m) W := fun W => by
      rw [run_max_int3]
      have : (if z > (if y > x then y else x) then z else (if y > x then y else x)) = m := by
        rw [← em]
        split <;> split <;> omega
      rw [this]
    clear en1 ex ey ez ezm em em1 hbig HA
    have G1 := Lib.hid (Wl.Good.new HNW.out)
    go_wp2_with fail
    refine (HP.out.st cX x S1.out (k := 0) rfl G1.out (by simp) HX.out (by decide)).mono ?_
    rintro e' w2 ⟨he, s2⟩
    subst he
    rw [st1] at s2
    have S2 : Hid (Sp.Sep w w2 [WI g ⟨now, [⟨cX, x⟩]⟩]) := Lib.hid s2
    have G2 := Lib.hid (show Wl.Good ⟨now, [⟨cX, x⟩]⟩ by rw [← st1]; exact G1.out.set HX.out (by decide) (by simp))
    clear s2 S1 G1
    obtain ⟨f2, l, e2, f3, e3, hl⟩ := st2 now x y
    go_wp2_with fail
    refine (HP.out.st cY y S2.out (k := 0) rfl G2.out (by simp) HY.out (by decide)).mono ?_
    rintro e' w3 ⟨he, s3⟩
    subst he
    rw [e2] at s3
    have S3 : Hid (Sp.Sep w w3 [WI g ⟨now, l⟩]) := Lib.hid s3
    have G3 := Lib.hid (show Wl.Good ⟨now, l⟩ by rw [← e2]; exact G2.out.set HY.out (by decide) (by simp))
    have E3 := Lib.hid e3
    have F3 := Lib.hid f3
    clear s3 S2 G2 e2 f2 e3 f3 hl
    obtain ⟨f4, e4, f5, e5⟩ := st3 now y z
    have F4 := Lib.hid f4
    have E4 := Lib.hid e4
    have F5 := Lib.hid f5
    have E5 := Lib.hid e5
    clear f4 e4 f5 e5
    go_wp2_with fail
    refine (HP.out.cn cX S3.out (k := 0) rfl G3.out (by decide)).mono ?_
    rintro e' w4 ⟨he, s4⟩
    rw [F3.out] at he
    subst he
    rw [E3.out] at s4
    have S4 : Hid (Sp.Sep w w4 [WI g ⟨now, [⟨cY, y⟩]⟩]) := Lib.hid s4
    have G4 := Lib.hid (show Wl.Good ⟨now, [⟨cY, y⟩]⟩ by rw [← E3.out]; exact G3.out.can _)
    clear s4 S3 G3 E3 F3
    go_wp2_with fail
    refine (HP.out.cn cX S4.out (k := 0) rfl G4.out (by decide)).mono ?_
    rintro e' w5 ⟨he, s5⟩
    rw [F4.out] at he
    subst he
    rw [E4.out] at s5
    have S5 : Hid (Sp.Sep w w5 [WI g ⟨now, [⟨cY, y⟩]⟩]) := Lib.hid s5
    clear s5 S4 E4 F4
    go_wp2_with fail
    refine (HP.out.st cY z S5.out (k := 0) rfl G4.out (by simp) HZ.out (by decide)).mono ?_
    rintro e' w6 ⟨he, s6⟩
    rw [F5.out] at he
    subst he
    rw [E5.out] at s6
    have S6 : Hid (Sp.Sep w w6 [WI g ⟨now, [⟨cY, z⟩]⟩]) := Lib.hid s6
    have G6 := Lib.hid (show Wl.Good ⟨now, [⟨cY, z⟩]⟩ by rw [← E5.out]; exact G4.out.set HZ.out (by decide) (by simp))
    clear s6 S5 E5 F5 G4
    have A1 := Lib.hid (st4 now zm z HT.out.1 HT.out.2)
    have A2 := Lib.hid (st5 zm z HT.out.2)
    obtain ⟨t3, a3⟩ := st6 z m1
    have A3 := Lib.hid a3
    clear a3
    go_wp2_with fail
    refine (HP.out.ad zm S6.out (k := 0) rfl G6.out HZM.out).mono ?_
    rintro e' w7 ⟨A7, p7, rfl, s7⟩
    rw [A1.out.1, A1.out.2] at s7
    have S7 : Hid (Sp.Sep w w7 [WI g ⟨zm, [⟨cY, z⟩]⟩, trI A7 0 []]) := Lib.hid s7
    have G7 := Lib.hid (show Wl.Good ⟨zm, [⟨cY, z⟩]⟩ by rw [← A1.out.1]; exact G6.out.adv HZM.out)
    simp only [A1.out.2, List.length_nil]
    clear s7 S6 G6 A1
    go_wp2_with fail
    refine (HP.out.ad z S7.out (k := 0) rfl G7.out HZ.out).mono ?_
    rintro e' w8 ⟨A8, p8, rfl, s8⟩
    rw [A2.out.1, A2.out.2] at s8
    have S8 : Hid (Sp.Sep w w8 [WI g ⟨z, []⟩, trI A7 0 [], trI A8 1 [⟨cY, z⟩]]) := Lib.hid s8
    have G8 := Lib.hid (show Wl.Good ⟨z, []⟩ by rw [← A2.out.1]; exact G7.out.adv HZ.out)
    simp only [A2.out.2, List.length_cons, List.length_nil, Nat.zero_add]
    clear s8 S7 G7 A2
    go_wp2_with fail
    refine (HP.out.ad m1 S8.out (k := 0) rfl G8.out HM1.out).mono ?_
    rintro e' w9 ⟨A9, p9, rfl, s9⟩
    rw [A3.out.1, A3.out.2] at s9
    have S9 : Hid (Sp.Sep w w9 [WI g ⟨t3, []⟩, trI A7 0 [], trI A8 1 [⟨cY, z⟩], trI A9 0 []]) := Lib.hid s9
    have G9 := Lib.hid (show Wl.Good ⟨t3, []⟩ by rw [← A3.out.1]; exact G8.out.adv HM1.out)
    simp only [A3.out.2, List.length_nil]
    clear s9 S8 G8 A3
    go_wp2_with fail
    refine (timers_any (tr_at S9.out (k := 2) rfl) (by decide)).mono ?_
    rintro e' wa0 ⟨Aa, pa, rfl, ra, hba⟩
    have Sa := Lib.hid (S9.out.later hba)
    have Z := TR.lit wa0 57 [⟨cY, z⟩] #[.string ⟨#[121]⟩, .int .u64 z] rfl
    have hbz := below1 wa0 (.cells #[.string ⟨#[121]⟩, .int .u64 z] 57)
    have Sb := Lib.hid (Sa.out.later hbz)
    have HQ := Lib.hid (fun p q => same_yes (p := p) (q := q) (ra.later hbz) Z (by decide))
    clear S9 Sa ra hba Z hbz
    go_wp2_with fail
    refine (HQ.out _ _).mono ?_
    rintro e' wb0 ⟨rfl, hbb⟩
    have Sc := Lib.hid (Sb.out.later hbb)
    clear hbb HQ Sb
    go_wp2_with fail
    refine (HP.out.ln Sc.out (k := 0) rfl G9.out).mono ?_
    rintro e' wc0 ⟨rfl, hbc⟩
    have Sd := Lib.hid (Sc.out.later hbc)
    clear hbc Sc
    go_wp2_with fail
    refine (fixed_any HP.out _).mono ?_
    rintro e' wd0 ⟨rfl, hbd0⟩
    have BD := Lib.hid (Sd.out.below.trans (hbd0.mono Sd.out.below.size))
    clear hbd0 Sd
    go_wp2_with fail
    go_ret
    exact ⟨rfl, BD.out⟩

set_option maxRecDepth 100000 in
theorem lifted {WI : Nat → Wh → Sp.Item} (P : Prg WI) (os : Os) (started : os.Started) (H : Type) (enc : TypeId × Value → H) :
    ReturnsInHanded {} Try.checked os 7 .any (Rows.wheelCancelSpec.pre6 enc Try.prog Try.f7 Rows.wheelCancelRow.domain false) (Rows.wheelCancelSpec.post enc Try.prog Try.f7 false true false false) := by
  refine returnsInHanded_of_change (C := Try.checked) own started (by kernel_rfl) Try.func7
    (ChangeSpec.witness6 (enc := enc) (C := Try.checked) false ⟨#[], #[.int .u64 0, .agg #[.int .u32 0, .int .u32 0, .int .u32 0]], []⟩ 8 (by kernel_rfl) (by kernel_rfl) (by kernel_rfl) (by kernel_rfl)) ?_
  intro W base args ds gs before hval0 hW hcnd _
  have hval : ∀ (j : Nat) t v, Try.f7.params[j]? = some t → args[j]? = some v → Value.okWide Try.prog W .any base t v := hval0
  have hW' := hW
  obtain ⟨p, q, hA0, hV, rfl, hfz, hnd⟩ := hW
  have hA : DataW.TrodAll enc Try.prog W 0 (fun _ => true) true Try.f7.params.toList args.toList ds p := hA0
  rw [Try.params7] at hA hval
  obtain ⟨v0, vs0, d0, ds0, p0, q0, hargs, rfl, rfl, h0, r0⟩ := trodAll_cons hA
  obtain ⟨v1, vs1, d1, ds1, p1, q1, rfl, rfl, rfl, h1, r1⟩ := trodAll_cons r0
  obtain ⟨rfl, rfl, rfl⟩ := trodAll_nil r1
  obtain rfl : args = #[v0, v1] := by cases args; simp_all
  obtain ⟨rfl, rfl⟩ := trodVars_none hV
  obtain ⟨a0, rfl, rfl, rfl, w0⟩ := open_int Try.underlying22 (hval 0 22 v0 rfl rfl) h0
  obtain ⟨x1, y1, z1, rfl, rfl, rfl, wx1, wy1, wz1⟩ := open_arr3 Try.underlying55 Try.underlying53 cellsE1 cellsT1 (hval 1 55 v1 rfl rfl) h1
  clear hA0 hval0
  try simp only [List.append_nil] at hW'
  try simp only [List.nil_append] at hW'
  have hlt := fun x hx => hW'.lt x hx
  refine (walk P a0 x1 y1 z1 W (u64_of w0) (u32_of wx1) (u32_of wy1) (u32_of wz1)).mono fun e W' ⟨he, hg⟩ => ?_
  subst he
  refine ⟨_, rfl, post_mem hW' (fun _ _ _ => (trodAll_cons_mk (shut_bool Try.underlying4 _) trodAll_mk0)) (fun sp hsp => ?_) (fun _ => rfl) hg (ok_one (by kernel_rfl) rfl (okWide_bool_mk Try.underlying4 _))⟩
  have hall := (trodAll_cons_mk (arg_same (sp := sp) laid (by kernel_rfl) (of_decide_eq_true (by kernel_rfl)) h0 hg (by intro x hx; simp_all) hlt hsp) (trodAll_cons_mk (arg_same (sp := sp) laid (by kernel_rfl) (of_decide_eq_true (by kernel_rfl)) h1 hg (by intro x hx; simp_all) hlt hsp) trodAll_mk0))
  try simp only [List.append_nil] at hall
  try simp only [List.nil_append] at hall
  exact hall

theorem over {WI : Nat → Wh → Sp.Item} (P : Prg WI) : Rows.wheelCancelRow.holds Try.pinned (OpenSpec.ofChange Rows.wheelCancelSpec) :=
  OpenClaim.holds_of_wide 7 Try.f7 rfl rfl rfl rfl rfl rfl rfl ⟨rfl, rfl, rfl, rfl, rfl⟩ rfl rfl rfl rfl rfl (by kernel_rfl) Try.func7 (by kernel_rfl)
    (of_decide_eq_true (by kernel_rfl)) (by unfold Func.isWrapper; first | (rw [if_pos (by decide +kernel)]; kernel_rfl) | (rw [if_neg (by decide +kernel)]; exact ⟨rfl, rfl⟩))
    (fun os started H enc _ => lifted P os started H enc)

end Go.Proofs.Ytogfpakopckfoaa.wheelCancel
