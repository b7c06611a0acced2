/- The document's first: is one the best one of some, and none ahead as good? -/
import Derived.Test.YtgepkomomjmmhaaViA
namespace Go.Proofs.Ytgepkomomjmmhaa.Vi
open Go.ChangeShapes Go.WideShapes Go.ChangeAt Go.RowKit Go.Lib Go.Joins Go.Deep
open Sp
set_option linter.unusedVariables false
set_option maxRecDepth 100000

/-- Which ones: by a list. -/
def inB (B : List Bool) : Nat → Bool := fun i => (B[i]?).getD false
theorem inB_of {B : List Bool} {i : Nat} {b : Bool} (h : B[i]? = some b) : inB B i = b := by unfold inB; rw [h]; rfl
/-- As far as so many. -/
def FirstN (c : Nat → Cd) (P : Nat → Bool) (i k : Nat) : Prop := ∀ j, j < k → P j = true → better (c j) (c i) = false ∧ (j < i → better (c i) (c j) = true)
theorem FirstN.top {n i : Nat} {c : Nat → Cd} {P : Nat → Bool} (h : FirstN c P i n) (hi : i < n) (hp : P i = true) : Top n c P i := ⟨hi, hp, fun k hk hpk => (h k hk hpk).1, fun k hk hpk => (h k (by omega) hpk).2 hk⟩
theorem FirstN.succ {c : Nat → Cd} {P : Nat → Bool} {i k : Nat} (h : FirstN c P i k) (hk : P k = true → better (c k) (c i) = false ∧ (k < i → better (c i) (c k) = true)) : FirstN c P i (k + 1) := fun j hj hp => by
  rcases Nat.lt_succ_iff_lt_or_eq.1 hj with h1 | h1
  · exact h j h1 hp
  · subst h1; exact hk hp
set_option maxHeartbeats 4000000 in
theorem first_any (A : Option Addr) (n p : Nat) (L : List Cd) (D : Option Addr) (q : Nat) (B : List Bool) (i : Nat) (w : World) (hC : CR w A n L) (hB : VR w D n (bv B)) (hn : n ≤ 1000) (hi : i < n) (hok : ∀ x ∈ L, COk x) (R : Bool) (hR : R = true ↔ Top n (cdA L) (inB B) i) :
    Calls Try.prog 31 #[.slice A n p, .slice D n q, .int .i64 (i : Nat)] w fun e w' => e = .returned (.bool R) ∧ Below w.heap.size w w' := by
  have HR := Lib.hid hR
  clear hR
  have HN := Lib.hid hn
  have HL := Lib.hid hC.len
  have HBL := Lib.hid (show n = B.length by rw [← bv_len]; exact hB.len)
  obtain ⟨g, o, rfl, hc⟩ := hC.rc (by omega)
  obtain ⟨g2, o2, rfl, hb⟩ := hB.c (by omega)
  have hin : (i : Int) < (n : Int) := by omega
  have HI := Lib.hid hi
  obtain ⟨x, hx⟩ : ∃ x, L[i]? = some x := ⟨_, List.getElem?_eq_getElem (by have := HL.out; omega)⟩
  have ex := cdA_of hx
  obtain ⟨b0, hb0⟩ : ∃ b, B[i]? = some b := ⟨_, List.getElem?_eq_getElem (by have := HBL.out; omega)⟩
  have eb0 := inB_of hb0
  have HX := Lib.hid (hok x (List.mem_of_getElem? hx))
  have hcx := Lib.hid (hc i x hx)
  have hbx := Lib.hid (hb i _ (bv_at hb0))
  have HC := Lib.hid hc
  have HBV := Lib.hid hb
  have HOK := Lib.hid hok
  have EX := Lib.hid ex
  have EB := Lib.hid eb0
  clear hc hb hok hn hC hB hx hb0 ex eb0
  go_enter Try.func31, Try.ntmps31
  go_upto_region 2 with fail
  go_loopg [7] n (fun gk s7 wr => ∃ k : Nat, k ≤ n ∧ gk = n - k ∧ s7 = .int .i64 (k : Nat) ∧ Hid (Below w.heap.size w wr) ∧ Hid (FirstN (cdA L) (inB B) i k))
  case atStart => exact ⟨0, by omega, rfl, rfl, Lib.hid (Below.refl _ _), Lib.hid (fun j hj => by omega)⟩
  case round =>
    obtain ⟨k, hk, hgk, rfl, HW, HF⟩ := hrel
    have HGK := Lib.hid hgk
    clear hgk
    by_cases hkn : k < n
    · have hl : (k : Int) < (n : Int) := by omega
      have wk : IntKind.i64.wrap ((k : Int) + 1) = (k : Int) + 1 := IntWalk.i64_in _ (by have := HN.out; omega)
      obtain ⟨y, hy⟩ : ∃ y, L[k]? = some y := ⟨_, List.getElem?_eq_getElem (by have := HL.out; omega)⟩
      have EY := Lib.hid (cdA_of hy)
      obtain ⟨b, hb⟩ : ∃ b, B[k]? = some b := ⟨_, List.getElem?_eq_getElem (by have := HBL.out; omega)⟩
      have EK := Lib.hid (inB_of hb)
      have HY := Lib.hid (HOK.out y (List.mem_of_getElem? hy))
      have hcy := Lib.hid (HC.out k y hy)
      have hby := Lib.hid (HBV.out k _ (bv_at hb))
      have hI : ∀ jj : In (fun X => Below wr.heap.size wr X), Below w.heap.size w jj.W := fun jj => HW.out.trans (jj.h.mono HW.out.size)
      have d0 : ∀ jj : In (fun X => Below wr.heap.size wr X), jj.W.cell? ⟨g2, o2 + k, none⟩ = some (.bool b) := fun jj => ((hI jj).cell (World.block_lt_of_cell? _ _ hby.out)).trans hby.out
      have x0 : ∀ jj : In (fun X => Below wr.heap.size wr X), jj.W.cell? ⟨g, o + i * 5, none⟩ = some (.int .i64 x.s) := fun jj => (hcx.out.later (hI jj)).c0
      have x1 : ∀ jj : In (fun X => Below wr.heap.size wr X), jj.W.cell? ⟨g, o + i * 5 + 1, none⟩ = some (.int .i64 x.l) := fun jj => (hcx.out.later (hI jj)).c1
      have x2 : ∀ jj : In (fun X => Below wr.heap.size wr X), jj.W.cell? ⟨g, o + i * 5 + 2, none⟩ = some (.int .i64 x.v) := fun jj => (hcx.out.later (hI jj)).c2
      have x3 : ∀ jj : In (fun X => Below wr.heap.size wr X), jj.W.cell? ⟨g, o + i * 5 + 3, none⟩ = some (.int .i64 x.n) := fun jj => (hcx.out.later (hI jj)).c3
      have x4 : ∀ jj : In (fun X => Below wr.heap.size wr X), jj.W.cell? ⟨g, o + i * 5 + 4, none⟩ = some (.int .u64 x.a) := fun jj => (hcx.out.later (hI jj)).c4
      have y0 : ∀ jj : In (fun X => Below wr.heap.size wr X), jj.W.cell? ⟨g, o + k * 5, none⟩ = some (.int .i64 y.s) := fun jj => (hcy.out.later (hI jj)).c0
      have y1 : ∀ jj : In (fun X => Below wr.heap.size wr X), jj.W.cell? ⟨g, o + k * 5 + 1, none⟩ = some (.int .i64 y.l) := fun jj => (hcy.out.later (hI jj)).c1
      have y2 : ∀ jj : In (fun X => Below wr.heap.size wr X), jj.W.cell? ⟨g, o + k * 5 + 2, none⟩ = some (.int .i64 y.v) := fun jj => (hcy.out.later (hI jj)).c2
      have y3 : ∀ jj : In (fun X => Below wr.heap.size wr X), jj.W.cell? ⟨g, o + k * 5 + 3, none⟩ = some (.int .i64 y.n) := fun jj => (hcy.out.later (hI jj)).c3
      have y4 : ∀ jj : In (fun X => Below wr.heap.size wr X), jj.W.cell? ⟨g, o + k * 5 + 4, none⟩ = some (.int .u64 y.a) := fun jj => (hcy.out.later (hI jj)).c4
      clear hy hb hcy hby
      have CYX : Hid (∀ X, Calls Try.prog 11 #[.agg (cdA5 y), .agg (cdA5 x)] X fun e w' => e = .returned (.bool (better y x)) ∧ Below X.heap.size X w') := Lib.hid (fun X => rbetter_any y x X HY.out HX.out)
      have CXY : Hid (∀ X, Calls Try.prog 11 #[.agg (cdA5 x), .agg (cdA5 y)] X fun e w' => e = .returned (.bool (better x y)) ∧ Below X.heap.size X w') := Lib.hid (fun X => rbetter_any x y X HX.out HY.out)
      cases b with
      | false =>
        go_upto_region 4 with fail
        have I : Below wr.heap.size wr { wr with drawn := wr.drawn + 1 } := (Below.refl _ _).drew
        have hne : Nonempty (In (fun X => Below wr.heap.size wr X)) := ⟨⟨_, I⟩⟩
        refine region_class (fun X => Below wr.heap.size wr X) (by kernel_rfl) (by kernel_rfl) I ?_
        repeat (go_big_quiet_step (first
          | (go_at_call 11; with_reducible exact class_call _ (fun hi => (CYX.out _).mono fun _ _ ⟨he, hb⟩ => ⟨he, hi.trans (hb.mono hi.size)⟩))
          | (go_at_call 11; with_reducible exact class_call _ (fun hi => (CXY.out _).mono fun _ _ ⟨he, hb⟩ => ⟨he, hi.trans (hb.mono hi.size)⟩))))
        refine wpQuiet_nil ?_
        rintro _ ⟨jj, rfl⟩
        have H2 := Lib.hid (hI jj)
        clear I hne hI d0 x0 x1 x2 x3 x4 y0 y1 y2 y3 y4
        generalize jj.W = X at *
        clear jj
        go_wp2_with fail
        go_roundg (n - (k + 1))
        case measure => have := HGK.out; omega
        case rel => exact ⟨k + 1, by omega, by have := HGK.out; omega, by go_num, H2, Lib.hid (HF.out.succ (fun h => by rw [EK.out] at h; cases h))⟩
      | true =>
        have EYX : Hid (better (cdA L k) (cdA L i) = better y x) := Lib.hid (by rw [EY.out, EX.out])
        have EXY : Hid (better (cdA L i) (cdA L k) = better x y) := Lib.hid (by rw [EY.out, EX.out])
        cases hyx : better y x with
        | true =>
          rw [hyx] at CYX EYX
          clear hyx
          go_upto_region 4 with fail
          have I : Below wr.heap.size wr { wr with drawn := wr.drawn + 1 } := (Below.refl _ _).drew
          have hne : Nonempty (In (fun X => Below wr.heap.size wr X)) := ⟨⟨_, I⟩⟩
          refine region_class (fun X => Below wr.heap.size wr X) (by kernel_rfl) (by kernel_rfl) I ?_
          repeat (go_big_quiet_step (first
            | (go_at_call 11; with_reducible exact class_call _ (fun hi => (CYX.out _).mono fun _ _ ⟨he, hb⟩ => ⟨he, hi.trans (hb.mono hi.size)⟩))
            | (go_at_call 11; with_reducible exact class_call _ (fun hi => (CXY.out _).mono fun _ _ ⟨he, hb⟩ => ⟨he, hi.trans (hb.mono hi.size)⟩))))
          refine wpQuiet_nil ?_
          rintro _ ⟨jj, rfl⟩
          have H2 := Lib.hid (hI jj)
          clear I hne hI d0 x0 x1 x2 x3 x4 y0 y1 y2 y3 y4
          generalize jj.W = X at *
          clear jj
          go_wp2_with fail
          go_ret
          exact ⟨ret_bool (Eq.symm (Bool.eq_false_iff.2 fun hr => absurd ((fun h => EYX.out.symm.trans (h.no k hkn EK.out)) (HR.out.1 hr)) (by simp))), H2.out⟩
        | false =>
          rw [hyx] at CYX EYX
          clear hyx
          by_cases hki : k < i
          · have hli : (k : Int) < (i : Int) := by omega
            cases hxy : better x y with
            | true =>
              rw [hxy] at CXY EXY
              clear hxy
              go_upto_region 4 with fail
              have I : Below wr.heap.size wr { wr with drawn := wr.drawn + 1 } := (Below.refl _ _).drew
              have hne : Nonempty (In (fun X => Below wr.heap.size wr X)) := ⟨⟨_, I⟩⟩
              refine region_class (fun X => Below wr.heap.size wr X) (by kernel_rfl) (by kernel_rfl) I ?_
              repeat (go_big_quiet_step (first
                | (go_at_call 11; with_reducible exact class_call _ (fun hi => (CYX.out _).mono fun _ _ ⟨he, hb⟩ => ⟨he, hi.trans (hb.mono hi.size)⟩))
                | (go_at_call 11; with_reducible exact class_call _ (fun hi => (CXY.out _).mono fun _ _ ⟨he, hb⟩ => ⟨he, hi.trans (hb.mono hi.size)⟩))))
              refine wpQuiet_nil ?_
              rintro _ ⟨jj, rfl⟩
              have H2 := Lib.hid (hI jj)
              clear I hne hI d0 x0 x1 x2 x3 x4 y0 y1 y2 y3 y4
              generalize jj.W = X at *
              clear jj
              go_wp2_with fail
              go_roundg (n - (k + 1))
              case measure => have := HGK.out; omega
              case rel => exact ⟨k + 1, by omega, by have := HGK.out; omega, by go_num, H2, Lib.hid (HF.out.succ (fun _ => ⟨EYX.out, fun _ => EXY.out⟩))⟩
            | false =>
              rw [hxy] at CXY EXY
              clear hxy
              go_upto_region 4 with fail
              have I : Below wr.heap.size wr { wr with drawn := wr.drawn + 1 } := (Below.refl _ _).drew
              have hne : Nonempty (In (fun X => Below wr.heap.size wr X)) := ⟨⟨_, I⟩⟩
              refine region_class (fun X => Below wr.heap.size wr X) (by kernel_rfl) (by kernel_rfl) I ?_
              repeat (go_big_quiet_step (first
                | (go_at_call 11; with_reducible exact class_call _ (fun hi => (CYX.out _).mono fun _ _ ⟨he, hb⟩ => ⟨he, hi.trans (hb.mono hi.size)⟩))
                | (go_at_call 11; with_reducible exact class_call _ (fun hi => (CXY.out _).mono fun _ _ ⟨he, hb⟩ => ⟨he, hi.trans (hb.mono hi.size)⟩))))
              refine wpQuiet_nil ?_
              rintro _ ⟨jj, rfl⟩
              have H2 := Lib.hid (hI jj)
              clear I hne hI d0 x0 x1 x2 x3 x4 y0 y1 y2 y3 y4
              generalize jj.W = X at *
              clear jj
              go_wp2_with fail
              go_ret
              exact ⟨ret_bool (Eq.symm (Bool.eq_false_iff.2 fun hr => absurd ((fun h => EXY.out.symm.trans (h.ah k hki EK.out)) (HR.out.1 hr)) (by simp))), H2.out⟩
          · have hli : ¬ (k : Int) < (i : Int) := by omega
            go_upto_region 4 with fail
            have I : Below wr.heap.size wr { wr with drawn := wr.drawn + 1 } := (Below.refl _ _).drew
            have hne : Nonempty (In (fun X => Below wr.heap.size wr X)) := ⟨⟨_, I⟩⟩
            refine region_class (fun X => Below wr.heap.size wr X) (by kernel_rfl) (by kernel_rfl) I ?_
            repeat (go_big_quiet_step (first
              | (go_at_call 11; with_reducible exact class_call _ (fun hi => (CYX.out _).mono fun _ _ ⟨he, hb⟩ => ⟨he, hi.trans (hb.mono hi.size)⟩))
              | (go_at_call 11; with_reducible exact class_call _ (fun hi => (CXY.out _).mono fun _ _ ⟨he, hb⟩ => ⟨he, hi.trans (hb.mono hi.size)⟩))))
            refine wpQuiet_nil ?_
            rintro _ ⟨jj, rfl⟩
            have H2 := Lib.hid (hI jj)
            clear I hne hI d0 x0 x1 x2 x3 x4 y0 y1 y2 y3 y4
            generalize jj.W = X at *
            clear jj
            go_wp2_with fail
            go_roundg (n - (k + 1))
            case measure => have := HGK.out; omega
            case rel => exact ⟨k + 1, by omega, by have := HGK.out; omega, by go_num, H2, Lib.hid (HF.out.succ (fun _ => ⟨EYX.out, fun h => absurd h hki⟩))⟩
    · obtain rfl : k = n := by omega
      have hl : ¬ (k : Int) < (k : Int) := by omega
      have d0 : wr.cell? ⟨g2, o2 + i, none⟩ = some (.bool b0) := (HW.out.cell (World.block_lt_of_cell? _ _ hbx.out)).trans hbx.out
      go_wp2_with fail
      go_ret
      refine ⟨ret_bool (Bool.eq_iff_iff.2 ⟨fun h => HR.out.2 (HF.out.top HI.out (EB.out.trans h)), fun h => EB.out.symm.trans (HR.out.1 h).p⟩), HW.out⟩
end Go.Proofs.Ytgepkomomjmmhaa.Vi
