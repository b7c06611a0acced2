/- For all inputs the statement VictimAll about victim returns true, and changes nothing. Conditions: none. -/
import Derived.Test.YtgepkomomjmmhaaViK
import Derived.Test.YtgepkomomjmmhaaViF
import Derived.Test.YtgepkomomjmmhaaClass
import Derived.ProofKit
import Derived.OpenShut
import Derived.ShutString
import Derived.SizedLaws
namespace Go.Proofs.Ytgepkomomjmmhaa.victimAll
open Go.ChangeShapes Go.WideShapes Go.ChangeAt Go.RowKit Go.Lib Go.MapKept
open Go.ChangeMaps (open_string shut_string)
set_option linter.unusedVariables false
set_option linter.unusedSimpArgs false

theorem own : ownKnob Try.prog.godebug = none := by kernel_rfl
theorem laid : laidOutB Try.prog = true := by kernel_rfl

set_option maxRecDepth 100000
open Vi Sp
theorem order_at {M : List Cd} {i a : Nat} (h : (ord M.length (cdA M))[i]? = some a) : (order M)[i]? = some ((a : Nat) : Int) := by
  unfold order
  rw [List.getElem?_map, h]
  rfl
set_option maxHeartbeats 32000000 in
theorem walk (P : Prg) (A : Option Addr) (n c : Nat) (L : List Cd) (w : World) (hL : CR w A n L) (hn : n ≤ maxLen) (hp : n ≤ c) (ho : ∀ x ∈ L, CIn x) :
    Calls Try.prog 7 #[.slice A n c] w fun e w' => e = .returned (.bool true) ∧ Below w.heap.size w w' := by
  obtain ⟨m, M, hM⟩ := cut16 hL hp ho
  have HM := Lib.hid hM
  have hmin := hM.e.symm
  have hmc : (m : Int) ≤ (c : Int) := by have := hM.cap; omega
  have hm0 : (0 : Int) ≤ (m : Int) := by omega
  have HLEN := Lib.hid hM.r.len
  have HOD : Hid (Calls Try.prog 17 #[.slice A m c] w fun e w' => ∃ A' p', e = .returned (.slice A' m p') ∧ VR w' A' m (iv (order M)) ∧ Below w.heap.size w w') := Lib.hid (P.od A m c M w HM.out.r (by have := HM.out.le; omega) HM.out.cap HM.out.ok)
  have HBT := Lib.hid (fun (a b : Cd) (X : World) (ha : CIn a) (hb : CIn b) => P.bt a b X ha hb)
  have HFX := Lib.hid (fun X => fixed_any P X)
  have HO : Hid (OrdP m (cdA M) m (ord m (cdA M)) (ordS m (cdA M) m).2) := Lib.hid (ord_is m (cdA M))
  have HAT : Hid (∀ i a, (ord m (cdA M))[i]? = some a → (order M)[i]? = some ((a : Nat) : Int)) := Lib.hid (fun i a h => order_at (by rw [← HLEN.out]; exact h))
  clear P hL hn hp ho hM
  go_enter Try.func7, Try.ntmps7
  go_upto_region 2 with fail
  clear hmin
  have hmm : ((m : Int) != (m : Int)) = false := by simp
  go_upto_region 6 with (go_at_call 17; refine HOD.out.mono ?_; rintro e5 w5 ⟨A1, p1, rfl, hv, hb5⟩; have H5 := Lib.hid hb5; have HV := Lib.hid hv; clear hb5 hv HOD)
  generalize ord m (cdA M) = O at *
  generalize (ordS m (cdA M) m).2 = PP at *
  go_loopg [4] m (fun gk s4 wr => ∃ (i : Nat), i ≤ m ∧ gk = m - i ∧ s4 = .int .i64 (i : Nat) ∧ Hid (Below w.heap.size w wr) ∧ Hid (Below w5.heap.size w5 wr))
  case atStart => exact ⟨0, by omega, rfl, rfl, H5, Lib.hid (Below.refl _ _)⟩
  case round =>
    obtain ⟨i, hi, hgk, rfl, HW, HW5⟩ := hrel
    have HGK := Lib.hid hgk
    clear hgk
    by_cases hlt : i < m
    · have hl2 : (i : Int) < (m : Int) := by omega
      have wi : IntKind.i64.wrap ((i : Int) + 1) = (i : Int) + 1 := IntWalk.i64_in _ (by have := HM.out.le; omega)
      obtain ⟨a, ha⟩ : ∃ a, O[i]? = some a := ⟨_, List.getElem?_eq_getElem (by have := HO.out.len; omega)⟩
      have ham := HO.out.lt a (List.mem_of_getElem? ha)
      have HAO := Lib.hid ha
      obtain ⟨g, o, rfl, hc⟩ := HM.out.r.rc (by omega)
      obtain ⟨g1, o1, rfl, hv⟩ := HV.out.c (by omega)
      have HC := Lib.hid hc
      have HVC := Lib.hid hv
      obtain ⟨x, hx⟩ : ∃ x, M[a]? = some x := ⟨_, List.getElem?_eq_getElem (by have := HLEN.out; omega)⟩
      have HX := Lib.hid hx
      have EX := Lib.hid (cdA_of hx)
      have HXI := Lib.hid (HM.out.ok x (List.mem_of_getElem? hx))
      have hca : w5.cell? ⟨g1, o1 + i, none⟩ = some (.int .i64 ((a : Nat) : Int)) := hv i _ (iv_at (HAT.out i a ha))
      have HCA := Lib.hid hca
      have ca : wr.cell? ⟨g1, o1 + i, none⟩ = some (.int .i64 ((a : Nat) : Int)) := (HW5.out.cell (World.block_lt_of_cell? _ _ hca)).trans hca
      have la : (a : Int) < (m : Int) := by omega
      have da0 : decide ((a : Int) < 0) = false := decide_eq_false (by omega)
      have da1 : decide ((m : Int) ≤ (a : Int)) = false := decide_eq_false (by omega)
      have da2 : decide (m ≤ a) = false := decide_eq_false (by omega)
      clear ha ham hc hv hx hca
      go_upto_region 11 with fail
      go_loopg [5] i (fun gk s5 wr => ∃ (k : Nat), k ≤ i ∧ gk = i - k ∧ s5 = .int .i64 (k : Nat) ∧ Hid (Below w.heap.size w wr) ∧ Hid (Below w5.heap.size w5 wr))
      case atStart => exact ⟨0, by omega, rfl, rfl, HW, HW5⟩
      case round =>
        obtain ⟨k, hk, hgk2, rfl, HU, HU5⟩ := hrel
        have HGK2 := Lib.hid hgk2
        clear hgk2 ca HW HW5
        by_cases hki : k < i
        · have hl3 : (k : Int) < (i : Int) := by omega
          have hl4 : (k : Int) < (m : Int) := by omega
          have wk : IntKind.i64.wrap ((k : Int) + 1) = (k : Int) + 1 := IntWalk.i64_in _ (by have := HM.out.le; omega)
          obtain ⟨b, hb⟩ : ∃ b, O[k]? = some b := ⟨_, List.getElem?_eq_getElem (by have := HO.out.len; omega)⟩
          have hbm := HO.out.lt b (List.mem_of_getElem? hb)
          obtain ⟨y, hy⟩ : ∃ y, M[b]? = some y := ⟨_, List.getElem?_eq_getElem (by have := HLEN.out; omega)⟩
          have HYI := Lib.hid (HM.out.ok y (List.mem_of_getElem? hy))
          have hup := HO.out.up k i b a hki hb HAO.out
          rw [cdA_of hy, EX.out] at hup
          have hne : ¬ (b = a) := fun e => by
            subst e
            have h1 := (List.getElem?_inj (by have := HO.out.len; omega) HO.out.nd).1 (hb.trans HAO.out.symm)
            omega
          have eq1 : ((b : Int) == (a : Int)) = false := by simp; omega
          have hcb : w5.cell? ⟨g1, o1 + k, none⟩ = some (.int .i64 ((b : Nat) : Int)) := HVC.out k _ (iv_at (HAT.out k b hb))
          have HCB := Lib.hid hcb
          have HCX := Lib.hid (HC.out a x HX.out)
          have HCY := Lib.hid (HC.out b y hy)
          have lb : (b : Int) < (m : Int) := by omega
          have CXY : Hid (∀ X, Calls Try.prog 10 #[.agg (cdA5 x), .agg (cdA5 y)] X fun e w' => e = .returned (.bool false) ∧ Below X.heap.size X w') := Lib.hid (fun X => by rw [← hup.1]; exact HBT.out x y X HXI.out HYI.out)
          have CYX : Hid (∀ X, Calls Try.prog 10 #[.agg (cdA5 y), .agg (cdA5 x)] X fun e w' => e = .returned (.bool (better y x)) ∧ Below X.heap.size X w') := Lib.hid (fun X => HBT.out y x X HYI.out HXI.out)
          have E2 := Lib.hid hup.2
          have HNE := Lib.hid hne
          clear hb hbm hy hup hcb hne
          go_upto_region 13 with fail
          have hI : ∀ jj : In (fun X => Below wr.heap.size wr X), Below w.heap.size w jj.W := fun jj => HU.out.trans (jj.h.mono HU.out.size)
          have hI5 : ∀ jj : In (fun X => Below wr.heap.size wr X), Below w5.heap.size w5 jj.W := fun jj => HU5.out.trans (jj.h.mono HU5.out.size)
          have ja : ∀ jj : In (fun X => Below wr.heap.size wr X), jj.W.cell? ⟨g1, o1 + i, none⟩ = some (.int .i64 ((a : Nat) : Int)) := fun jj => ((hI5 jj).cell (World.block_lt_of_cell? _ _ HCA.out)).trans HCA.out
          have jb : ∀ jj : In (fun X => Below wr.heap.size wr X), jj.W.cell? ⟨g1, o1 + k, none⟩ = some (.int .i64 ((b : Nat) : Int)) := fun jj => ((hI5 jj).cell (World.block_lt_of_cell? _ _ HCB.out)).trans HCB.out
          have x0 : ∀ jj : In (fun X => Below wr.heap.size wr X), jj.W.cell? ⟨g, o + a * 5, none⟩ = some (.int .i64 x.s) := fun jj => (HCX.out.later (hI jj)).c0
          have x1 : ∀ jj : In (fun X => Below wr.heap.size wr X), jj.W.cell? ⟨g, o + a * 5 + 1, none⟩ = some (.int .i64 x.l) := fun jj => (HCX.out.later (hI jj)).c1
          have x2 : ∀ jj : In (fun X => Below wr.heap.size wr X), jj.W.cell? ⟨g, o + a * 5 + 2, none⟩ = some (.int .i64 x.v) := fun jj => (HCX.out.later (hI jj)).c2
          have x3 : ∀ jj : In (fun X => Below wr.heap.size wr X), jj.W.cell? ⟨g, o + a * 5 + 3, none⟩ = some (.int .i64 x.n) := fun jj => (HCX.out.later (hI jj)).c3
          have x4 : ∀ jj : In (fun X => Below wr.heap.size wr X), jj.W.cell? ⟨g, o + a * 5 + 4, none⟩ = some (.int .u64 x.a) := fun jj => (HCX.out.later (hI jj)).c4
          have y0 : ∀ jj : In (fun X => Below wr.heap.size wr X), jj.W.cell? ⟨g, o + b * 5, none⟩ = some (.int .i64 y.s) := fun jj => (HCY.out.later (hI jj)).c0
          have y1 : ∀ jj : In (fun X => Below wr.heap.size wr X), jj.W.cell? ⟨g, o + b * 5 + 1, none⟩ = some (.int .i64 y.l) := fun jj => (HCY.out.later (hI jj)).c1
          have y2 : ∀ jj : In (fun X => Below wr.heap.size wr X), jj.W.cell? ⟨g, o + b * 5 + 2, none⟩ = some (.int .i64 y.v) := fun jj => (HCY.out.later (hI jj)).c2
          have y3 : ∀ jj : In (fun X => Below wr.heap.size wr X), jj.W.cell? ⟨g, o + b * 5 + 3, none⟩ = some (.int .i64 y.n) := fun jj => (HCY.out.later (hI jj)).c3
          have y4 : ∀ jj : In (fun X => Below wr.heap.size wr X), jj.W.cell? ⟨g, o + b * 5 + 4, none⟩ = some (.int .u64 y.a) := fun jj => (HCY.out.later (hI jj)).c4
          by_cases hab : a < b
          · have hlj : (a : Int) < (b : Int) := by omega
            have dlj : decide ((a : Int) < (b : Int)) = true := decide_eq_true hlj
            have dl2 : decide (a < b) = true := decide_eq_true hab
            rw [E2.out hab] at CYX
            have I : Below wr.heap.size wr { wr with drawn := wr.drawn + 1 } := (Below.refl _ _).drew
            have hne : Nonempty (In (fun X => Below wr.heap.size wr X)) := ⟨⟨_, I⟩⟩
            refine region_class (fun X => Below wr.heap.size wr X) (by kernel_rfl) (by kernel_rfl) I ?_
            repeat (go_big_quiet_step (first
              | (go_at_call 10; with_reducible exact class_call _ (fun hi => (CXY.out _).mono fun _ _ ⟨he, hb⟩ => ⟨he, hi.trans (hb.mono hi.size)⟩))
              | (go_at_call 10; with_reducible exact class_call _ (fun hi => (CYX.out _).mono fun _ _ ⟨he, hb⟩ => ⟨he, hi.trans (hb.mono hi.size)⟩))))
            refine wpQuiet_nil ?_
            rintro _ ⟨jj, rfl⟩
            have H2 := Lib.hid (hI jj)
            have H3 := Lib.hid (hI5 jj)
            clear hI5 ja jb
            clear I hne hI x0 x1 x2 x3 x4 y0 y1 y2 y3 y4
            generalize jj.W = X at *
            clear jj
            go_wp2_with fail
            go_roundg (i - (k + 1))
            case measure => have := HGK2.out; omega
            case rel => exact ⟨k + 1, by omega, by have := HGK2.out; omega, by go_num, H2, H3⟩
          · have hlj : ¬ ((a : Int) < (b : Int)) := by omega
            have dlj : decide ((a : Int) < (b : Int)) = false := decide_eq_false hlj
            have dl2 : decide (a < b) = false := decide_eq_false hab
            have I : Below wr.heap.size wr { wr with drawn := wr.drawn + 1 } := (Below.refl _ _).drew
            have hne : Nonempty (In (fun X => Below wr.heap.size wr X)) := ⟨⟨_, I⟩⟩
            refine region_class (fun X => Below wr.heap.size wr X) (by kernel_rfl) (by kernel_rfl) I ?_
            repeat (go_big_quiet_step (first
              | (go_at_call 10; with_reducible exact class_call _ (fun hi => (CXY.out _).mono fun _ _ ⟨he, hb⟩ => ⟨he, hi.trans (hb.mono hi.size)⟩))
              | (go_at_call 10; with_reducible exact class_call _ (fun hi => (CYX.out _).mono fun _ _ ⟨he, hb⟩ => ⟨he, hi.trans (hb.mono hi.size)⟩))))
            refine wpQuiet_nil ?_
            rintro _ ⟨jj, rfl⟩
            have H2 := Lib.hid (hI jj)
            have H3 := Lib.hid (hI5 jj)
            clear hI5 ja jb
            clear I hne hI x0 x1 x2 x3 x4 y0 y1 y2 y3 y4
            generalize jj.W = X at *
            clear jj
            go_wp2_with fail
            go_roundg (i - (k + 1))
            case measure => have := HGK2.out; omega
            case rel => exact ⟨k + 1, by omega, by have := HGK2.out; omega, by go_num, H2, H3⟩
        · obtain rfl : k = i := by omega
          have hl3 : ¬ ((k : Int) < (k : Int)) := by omega
          go_wp2_with fail
          go_roundg (m - (k + 1))
          case measure => have := HGK.out; omega
          case rel => exact ⟨k + 1, by omega, by have := HGK.out; omega, by go_num, HU, HU5⟩
    · obtain rfl : i = m := by omega
      have hl2 : ¬ ((i : Int) < (i : Int)) := by omega
      go_wp2_with (go_at_call 19; refine (HFX.out _).mono ?_; rintro e9 w9 ⟨rfl, hb9⟩; have H9 := Lib.hid (HW.out.trans (hb9.mono HW.out.size)); clear hb9)
      go_ret
      exact ⟨rfl, H9.out⟩

set_option maxRecDepth 100000 in
theorem lifted (P : Prg) (os : Os) (started : os.Started) (H : Type) (enc : TypeId × Value → H) :
    ReturnsInHanded {} Try.checked os 7 .any (Rows.victimAllSpec.pre6 enc Try.prog Try.f7 Rows.victimAllRow.domain false) (Rows.victimAllSpec.post enc Try.prog Try.f7 false true false false) := by
  refine returnsInHanded_of_change (C := Try.checked) own started (by kernel_rfl) Try.func7
    (ChangeSpec.witness6 (enc := enc) (C := Try.checked) false ⟨#[], #[.slice none 0 0], []⟩ 8 (by kernel_rfl) (by kernel_rfl) (by kernel_rfl) (by kernel_rfl)) ?_
  intro W base args ds gs before hval0 hW hcnd _
  have hval : ∀ (j : Nat) t v, Try.f7.params[j]? = some t → args[j]? = some v → Value.okWide Try.prog W .any base t v := hval0
  have hW' := hW
  obtain ⟨p, q, hA0, hV, rfl, hfz, hnd⟩ := hW
  have hA : DataW.TrodAll enc Try.prog W 0 (fun _ => true) true Try.f7.params.toList args.toList ds p := hA0
  rw [Try.params7] at hA hval
  obtain ⟨v0, vs0, d0, ds0, p0, q0, hargs, rfl, rfl, h0, r0⟩ := trodAll_cons hA
  obtain ⟨rfl, rfl, rfl⟩ := trodAll_nil r0
  obtain rfl : args = #[v0] := by cases args; simp_all
  obtain ⟨rfl, rfl⟩ := trodVars_none hV
  obtain ⟨A0, n0, c0, L0, rfl, hn0, hp0, hL0, ho0⟩ := open_cands (hval 0 22 v0 rfl rfl) h0
  clear hA0 hval0
  try simp only [List.append_nil] at hW'
  try simp only [List.nil_append] at hW'
  have hlt := fun x hx => hW'.lt x hx
  refine (walk P A0 n0 c0 L0 W hL0 hn0 hp0 ho0).mono fun e W' ⟨he, hg⟩ => ?_
  subst he
  refine ⟨_, rfl, post_mem hW' (fun _ _ _ => (trodAll_cons_mk (shut_bool Try.underlying4 _) trodAll_mk0)) (fun sp hsp => ?_) (fun _ => rfl) hg (ok_one (by kernel_rfl) rfl (okWide_bool_mk Try.underlying4 _))⟩
  have hall := (trodAll_cons_mk (arg_same (sp := sp) laid (by kernel_rfl) (of_decide_eq_true (by kernel_rfl)) h0 hg (by intro x hx; simp_all) hlt hsp) trodAll_mk0)
  try simp only [List.append_nil] at hall
  try simp only [List.nil_append] at hall
  exact hall

theorem over (P : Prg) : Rows.victimAllRow.holds Try.pinned (OpenSpec.ofChange Rows.victimAllSpec) :=
  OpenClaim.holds_of_wide 7 Try.f7 rfl rfl rfl rfl rfl rfl rfl ⟨rfl, rfl, rfl, rfl, rfl⟩ rfl rfl rfl rfl rfl (by kernel_rfl) Try.func7 (by kernel_rfl)
    (of_decide_eq_true (by kernel_rfl)) (by unfold Func.isWrapper; first | (rw [if_pos (by decide +kernel)]; kernel_rfl) | (rw [if_neg (by decide +kernel)]; exact ⟨rfl, rfl⟩))
    (fun os started H enc _ => lifted P os started H enc)

end Go.Proofs.Ytgepkomomjmmhaa.victimAll
