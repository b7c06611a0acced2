/- For all inputs the statement VictimBest about victim returns true, and changes nothing. Conditions: none. -/
import Derived.Test.YtgepkomomjmmhaaViK
import Derived.Test.YtgepkomomjmmhaaViF
import Derived.Test.YtgepkomomjmmhaaClass
import Derived.ProofKit
import Derived.OpenShut
import Derived.ShutString
import Derived.SizedLaws
namespace Go.Proofs.Ytgepkomomjmmhaa.victimBest
open Go.ChangeShapes Go.WideShapes Go.ChangeAt Go.RowKit Go.Lib Go.MapKept
open Go.ChangeMaps (open_string shut_string)
set_option linter.unusedVariables false
set_option linter.unusedSimpArgs false

theorem own : ownKnob Try.prog.godebug = none := by kernel_rfl
theorem laid : laidOutB Try.prog = true := by kernel_rfl

set_option maxRecDepth 100000
open Vi Sp
set_option maxHeartbeats 32000000 in
theorem walk (P : Prg) (A : Option Addr) (n c : Nat) (L : List Cd) (room more : Int) (w : World) (hL : CR w A n L) (hn : n ≤ maxLen) (hp : n ≤ c) (ho : ∀ x ∈ L, CIn x) (h1 : I64 room) (h2 : I64 more) :
    Calls Try.prog 6 #[.slice A n c, .int .i64 room, .int .i64 more] w fun e w' => e = .returned (.bool true) ∧ Below w.heap.size w w' := by
  obtain ⟨m, M, hM⟩ := cut16 hL hp ho
  have HM := Lib.hid hM
  have hmin := hM.e.symm
  have hmc : (m : Int) ≤ (c : Int) := by have := hM.cap; omega
  have hm0 : (0 : Int) ≤ (m : Int) := by omega
  have HLEN := Lib.hid hM.r.len
  have HPK : Hid (∀ X r, I64 r → Below w.heap.size w X → Calls Try.prog 13 #[.slice A m c, .int .i64 r] X fun e w' => e = .returned (.int .i64 (pick M r)) ∧ Below X.heap.size X w') := Lib.hid (fun X r hr hX => P.pk A m c M r X (HM.out.r.later hX) (by have := HM.out.le; omega) HM.out.cap HM.out.ok hr)
  have HBT := Lib.hid (fun (a b : Cd) (X : World) (ha : CIn a) (hb : CIn b) => P.bt a b X ha hb)
  have HFX := Lib.hid (fun X => fixed_any P X)
  have HR := Lib.hid h1
  have HMX : Hid (I64 (max room more)) := Lib.hid (by unfold I64 at *; omega)
  clear P hL hn hp ho h1 h2 hM
  have hbest := best_is (cdA M) (may M room) M.length
  have hpk : best M.length (cdA M) (may M room) = pick M room := rfl
  rw [hpk] at hbest
  have hb2 := best_is (cdA M) (may M (max room more)) M.length
  have hpk2 : best M.length (cdA M) (may M (max room more)) = pick M (max room more) := rfl
  rw [hpk2] at hb2
  rw [← HLEN.out] at hbest hb2
  have HB2 := Lib.hid hb2
  clear hpk hpk2 hb2
  have HPK1 := Lib.hid (fun X hX => HPK.out X room HR.out hX)
  have HPK2 := Lib.hid (fun X hX => HPK.out X _ HMX.out hX)
  clear HPK HR HMX
  obtain ⟨at', hat⟩ : ∃ z, pick M room = z := ⟨_, rfl⟩
  obtain ⟨k2, hk2⟩ : ∃ z, pick M (max room more) = z := ⟨_, rfl⟩
  rw [hat] at hbest HPK1
  rw [hk2] at HB2 HPK2
  have hk2a : -1 ≤ k2 := by rw [← hk2]; exact pick_ge _ _
  have hk2b : k2 < (m : Int) := by rw [← hk2, HLEN.out]; exact pick_lt _ _
  clear hat hk2
  go_enter Try.func6, Try.ntmps6
  go_upto_region 2 with fail
  clear hmin
  cases hbest with
  | none hno =>
    have HNO := Lib.hid hno
    clear hno
    have l1 : ¬ ((m : Int) ≤ -1) := by omega
    go_upto_region 6 with (go_at_call 13; refine (HPK1.out _ (Below.refl _ _)).mono ?_; rintro e5 w5 ⟨rfl, hb5⟩; have H5 := Lib.hid hb5; clear hb5)
    go_loopg [8] m (fun gk s8 wr => ∃ (i : Nat), i ≤ m ∧ gk = m - i ∧ s8 = .int .i64 (i : Nat) ∧ Hid (Below w.heap.size w wr))
    case atStart => exact ⟨0, by omega, rfl, rfl, H5⟩
    case round =>
      obtain ⟨i, hi, hgk, rfl, HW⟩ := hrel
      have HGK := Lib.hid hgk
      clear hgk H5
      by_cases hlt : i < m
      · have hl2 : (i : Int) < (m : Int) := by omega
        have wi : IntKind.i64.wrap ((i : Int) + 1) = (i : Int) + 1 := IntWalk.i64_in _ (by have := HM.out.le; omega)
        obtain ⟨x, hx⟩ : ∃ x, M[i]? = some x := ⟨_, List.getElem?_eq_getElem (by have := HLEN.out; omega)⟩
        have HX := Lib.hid hx
        obtain ⟨g, o, rfl, hc⟩ := HM.out.r.rc (by omega)
        have HC := Lib.hid ((hc i x hx).later HW.out)
        have x0 : wr.cell? ⟨g, o + i * 5, none⟩ = some (.int .i64 x.s) := (HC.out).c0
        have x1 : wr.cell? ⟨g, o + i * 5 + 1, none⟩ = some (.int .i64 x.l) := (HC.out).c1
        have x2 : wr.cell? ⟨g, o + i * 5 + 2, none⟩ = some (.int .i64 x.v) := (HC.out).c2
        have x3 : wr.cell? ⟨g, o + i * 5 + 3, none⟩ = some (.int .i64 x.n) := (HC.out).c3
        have x4 : wr.cell? ⟨g, o + i * 5 + 4, none⟩ = some (.int .u64 x.a) := (HC.out).c4
        have hgt : room < x.n := by
          have h1 := HNO.out i hlt
          unfold may at h1
          rw [cdA_of hx] at h1
          have := of_decide_eq_false h1
          omega
        clear hc hx
        go_wp2_with fail
        go_roundg (m - (i + 1))
        case measure => have := HGK.out; omega
        case rel => exact ⟨i + 1, by omega, by have := HGK.out; omega, by go_num, HW⟩
      · obtain rfl : i = m := by omega
        have hl2 : ¬ ((i : Int) < (i : Int)) := by omega
        have l2 : ¬ (k2 < -1) := by omega
        have l3 : ¬ ((i : Int) ≤ k2) := by omega
        have d2 : decide (k2 < -1) = false := decide_eq_false l2
        have d3 : decide ((i : Int) ≤ k2) = false := decide_eq_false l3
        go_upto_region 14 with (go_at_call 13; refine (HPK2.out _ HW.out).mono ?_; rintro e6 w6 ⟨rfl, hb6⟩; have H6 := Lib.hid (HW.out.trans (hb6.mono HW.out.size)); clear hb6)
        have hI : ∀ jj : In (fun X => Below w6.heap.size w6 X), Below w.heap.size w jj.W := fun jj => H6.out.trans (jj.h.mono H6.out.size)
        have I : Below w6.heap.size w6 { w6 with drawn := w6.drawn + 1 } := (Below.refl _ _).drew
        have hne : Nonempty (In (fun X => Below w6.heap.size w6 X)) := ⟨⟨_, I⟩⟩
        refine region_class (fun X => Below w6.heap.size w6 X) (by kernel_rfl) (by kernel_rfl) I ?_
        repeat (go_big_quiet_step (fail))
        refine wpQuiet_nil ?_
        rintro _ ⟨jj, rfl⟩
        have H2 := Lib.hid (hI jj)
        clear I hne hI 
        generalize jj.W = X at *
        clear jj
        go_wp2_with (go_at_call 19; refine (HFX.out _).mono ?_; rintro e9 w9 ⟨rfl, hb9⟩; have H9 := Lib.hid (H2.out.trans (hb9.mono H2.out.size)); clear hb9)
        go_ret
        exact ⟨rfl, H9.out⟩
  | some j ht =>
    have hjm : (j : Int) < (m : Int) := by have := ht.lt; omega
    have hj0 : ¬ ((j : Int) < 0) := by omega
    have hj1 : ¬ ((j : Int) < -1) := by omega
    have hj2 : ¬ ((m : Int) ≤ (j : Int)) := by omega
    have hj3 : (0 : Int) ≤ (j : Int) := by omega
    have HT := Lib.hid ht
    obtain ⟨y, hy⟩ : ∃ y, M[j]? = some y := ⟨_, List.getElem?_eq_getElem (by have := HLEN.out; omega)⟩
    have HY := Lib.hid hy
    have EY := Lib.hid (cdA_of hy)
    have hyr : ¬ (room < y.n) := by
      have h1 := ht.p
      unfold may at h1
      rw [cdA_of hy] at h1
      have := of_decide_eq_true h1
      omega
    have HYI := Lib.hid (HM.out.ok y (List.mem_of_getElem? hy))
    have dj0 : decide ((j : Int) < 0) = false := decide_eq_false hj0
    have dj3 : decide ((0 : Int) ≤ (j : Int)) = true := decide_eq_true hj3
    have dj1 : decide ((j : Int) < -1) = false := decide_eq_false hj1
    have dj2 : decide ((m : Int) ≤ (j : Int)) = false := decide_eq_false hj2
    have dj4 : decide (m ≤ j) = false := decide_eq_false (by omega)
    have djr : decide (room < y.n) = false := decide_eq_false hyr
    clear ht hy
    go_upto_region 6 with (go_at_call 13; refine (HPK1.out _ (Below.refl _ _)).mono ?_; rintro e5 w5 ⟨rfl, hb5⟩; have H5 := Lib.hid hb5; clear hb5)
    go_loopg [8] m (fun gk s8 wr => ∃ (i : Nat), i ≤ m ∧ gk = m - i ∧ s8 = .int .i64 (i : Nat) ∧ Hid (Below w.heap.size w wr))
    case atStart => exact ⟨0, by omega, rfl, rfl, H5⟩
    case round =>
      obtain ⟨i, hi, hgk, rfl, HW⟩ := hrel
      have HGK := Lib.hid hgk
      clear hgk H5
      by_cases hlt : i < m
      · have hl2 : (i : Int) < (m : Int) := by omega
        have wi : IntKind.i64.wrap ((i : Int) + 1) = (i : Int) + 1 := IntWalk.i64_in _ (by have := HM.out.le; omega)
        obtain ⟨x, hx⟩ : ∃ x, M[i]? = some x := ⟨_, List.getElem?_eq_getElem (by have := HLEN.out; omega)⟩
        have HX := Lib.hid hx
        obtain ⟨g, o, rfl, hc⟩ := HM.out.r.rc (by omega)
        have HCX := Lib.hid (hc i x hx)
        have HCY := Lib.hid (hc j y HY.out)
        have c0 : wr.cell? ⟨g, o + i * 5, none⟩ = some (.int .i64 x.s) := (HCX.out.later HW.out).c0
        have c1 : wr.cell? ⟨g, o + i * 5 + 1, none⟩ = some (.int .i64 x.l) := (HCX.out.later HW.out).c1
        have c2 : wr.cell? ⟨g, o + i * 5 + 2, none⟩ = some (.int .i64 x.v) := (HCX.out.later HW.out).c2
        have c3 : wr.cell? ⟨g, o + i * 5 + 3, none⟩ = some (.int .i64 x.n) := (HCX.out.later HW.out).c3
        have c4 : wr.cell? ⟨g, o + i * 5 + 4, none⟩ = some (.int .u64 x.a) := (HCX.out.later HW.out).c4
        have HXI := Lib.hid (HM.out.ok x (List.mem_of_getElem? hx))
        by_cases hgt : room < x.n
        · clear hc hx
          go_wp2_with fail
          go_roundg (m - (i + 1))
          case measure => have := HGK.out; omega
          case rel => exact ⟨i + 1, by omega, by have := HGK.out; omega, by go_num, HW⟩
        · have hmay : may M room i = true := by
            unfold may
            rw [cdA_of hx]
            exact decide_eq_true (by omega)
          have EX := Lib.hid (cdA_of hx)
          have e1 : better x y = false := by
            have := HT.out.no i hlt hmay
            rw [EX.out, EY.out] at this
            exact this
          have e2 : i < j → better y x = true := fun h => by
            have := HT.out.ah i h hmay
            rw [EX.out, EY.out] at this
            exact this
          have CXY : Hid (∀ X, Calls Try.prog 10 #[.agg (cdA5 x), .agg (cdA5 y)] X fun e w' => e = .returned (.bool false) ∧ Below X.heap.size X w') := Lib.hid (fun X => by rw [← e1]; exact HBT.out x y X HXI.out HYI.out)
          have CYX : Hid (∀ X, Calls Try.prog 10 #[.agg (cdA5 y), .agg (cdA5 x)] X fun e w' => e = .returned (.bool (better y x)) ∧ Below X.heap.size X w') := Lib.hid (fun X => HBT.out y x X HYI.out HXI.out)
          have E2 := Lib.hid e2
          clear e1 e2 hmay hc hx
          go_upto_region 9 with fail
          clear c0 c1 c2 c3 c4
          have hI : ∀ jj : In (fun X => Below wr.heap.size wr X), Below w.heap.size w jj.W := fun jj => HW.out.trans (jj.h.mono HW.out.size)
          have x0 : ∀ jj : In (fun X => Below wr.heap.size wr X), jj.W.cell? ⟨g, o + i * 5, none⟩ = some (.int .i64 x.s) := fun jj => (HCX.out.later (hI jj)).c0
          have x1 : ∀ jj : In (fun X => Below wr.heap.size wr X), jj.W.cell? ⟨g, o + i * 5 + 1, none⟩ = some (.int .i64 x.l) := fun jj => (HCX.out.later (hI jj)).c1
          have x2 : ∀ jj : In (fun X => Below wr.heap.size wr X), jj.W.cell? ⟨g, o + i * 5 + 2, none⟩ = some (.int .i64 x.v) := fun jj => (HCX.out.later (hI jj)).c2
          have x3 : ∀ jj : In (fun X => Below wr.heap.size wr X), jj.W.cell? ⟨g, o + i * 5 + 3, none⟩ = some (.int .i64 x.n) := fun jj => (HCX.out.later (hI jj)).c3
          have x4 : ∀ jj : In (fun X => Below wr.heap.size wr X), jj.W.cell? ⟨g, o + i * 5 + 4, none⟩ = some (.int .u64 x.a) := fun jj => (HCX.out.later (hI jj)).c4
          have y0 : ∀ jj : In (fun X => Below wr.heap.size wr X), jj.W.cell? ⟨g, o + j * 5, none⟩ = some (.int .i64 y.s) := fun jj => (HCY.out.later (hI jj)).c0
          have y1 : ∀ jj : In (fun X => Below wr.heap.size wr X), jj.W.cell? ⟨g, o + j * 5 + 1, none⟩ = some (.int .i64 y.l) := fun jj => (HCY.out.later (hI jj)).c1
          have y2 : ∀ jj : In (fun X => Below wr.heap.size wr X), jj.W.cell? ⟨g, o + j * 5 + 2, none⟩ = some (.int .i64 y.v) := fun jj => (HCY.out.later (hI jj)).c2
          have y3 : ∀ jj : In (fun X => Below wr.heap.size wr X), jj.W.cell? ⟨g, o + j * 5 + 3, none⟩ = some (.int .i64 y.n) := fun jj => (HCY.out.later (hI jj)).c3
          have y4 : ∀ jj : In (fun X => Below wr.heap.size wr X), jj.W.cell? ⟨g, o + j * 5 + 4, none⟩ = some (.int .u64 y.a) := fun jj => (HCY.out.later (hI jj)).c4
          by_cases hij : i < j
          · have hlj : (i : Int) < (j : Int) := by omega
            have dlj : decide ((i : Int) < (j : Int)) = true := decide_eq_true hlj
            rw [E2.out hij] at CYX
            have I : Below wr.heap.size wr { wr with drawn := wr.drawn + 1 } := (Below.refl _ _).drew
            have hne : Nonempty (In (fun X => Below wr.heap.size wr X)) := ⟨⟨_, I⟩⟩
            refine region_class (fun X => Below wr.heap.size wr X) (by kernel_rfl) (by kernel_rfl) I ?_
            repeat (go_big_quiet_step (first
              | (go_at_call 10; with_reducible exact class_call _ (fun hi => (CXY.out _).mono fun _ _ ⟨he, hb⟩ => ⟨he, hi.trans (hb.mono hi.size)⟩))
              | (go_at_call 10; with_reducible exact class_call _ (fun hi => (CYX.out _).mono fun _ _ ⟨he, hb⟩ => ⟨he, hi.trans (hb.mono hi.size)⟩))))
            refine wpQuiet_nil ?_
            rintro _ ⟨jj, rfl⟩
            have H2 := Lib.hid (hI jj)
            clear I hne hI x0 x1 x2 x3 x4 y0 y1 y2 y3 y4
            generalize jj.W = X at *
            clear jj
            go_wp2_with fail
            go_roundg (m - (i + 1))
            case measure => have := HGK.out; omega
            case rel => exact ⟨i + 1, by omega, by have := HGK.out; omega, by go_num, H2⟩
          · have hlj : ¬ ((i : Int) < (j : Int)) := by omega
            have dlj : decide ((i : Int) < (j : Int)) = false := decide_eq_false hlj
            have I : Below wr.heap.size wr { wr with drawn := wr.drawn + 1 } := (Below.refl _ _).drew
            have hne : Nonempty (In (fun X => Below wr.heap.size wr X)) := ⟨⟨_, I⟩⟩
            refine region_class (fun X => Below wr.heap.size wr X) (by kernel_rfl) (by kernel_rfl) I ?_
            repeat (go_big_quiet_step (first
              | (go_at_call 10; with_reducible exact class_call _ (fun hi => (CXY.out _).mono fun _ _ ⟨he, hb⟩ => ⟨he, hi.trans (hb.mono hi.size)⟩))
              | (go_at_call 10; with_reducible exact class_call _ (fun hi => (CYX.out _).mono fun _ _ ⟨he, hb⟩ => ⟨he, hi.trans (hb.mono hi.size)⟩))))
            refine wpQuiet_nil ?_
            rintro _ ⟨jj, rfl⟩
            have H2 := Lib.hid (hI jj)
            clear I hne hI x0 x1 x2 x3 x4 y0 y1 y2 y3 y4
            generalize jj.W = X at *
            clear jj
            go_wp2_with fail
            go_roundg (m - (i + 1))
            case measure => have := HGK.out; omega
            case rel => exact ⟨i + 1, by omega, by have := HGK.out; omega, by go_num, H2⟩
      · obtain rfl : i = m := by omega
        have hl2 : ¬ ((i : Int) < (i : Int)) := by omega
        obtain ⟨g, o, rfl, hc⟩ := HM.out.r.rc (by omega)
        have HCY := Lib.hid (hc j y HY.out)
        have hmay : may M (max room more) j = true := by
          unfold may
          rw [EY.out]
          exact decide_eq_true (by omega)
        have HB3 := HB2.out
        clear HB2
        cases HB3 with
        | none hno =>
          have := hno j (by omega)
          rw [hmay] at this
          cases this
        | some q hq =>
          have e3 := hq.no j (by omega) hmay
          obtain ⟨z, hz⟩ : ∃ z, M[q]? = some z := ⟨_, List.getElem?_eq_getElem (by have := hq.lt; have := HLEN.out; omega)⟩
          rw [EY.out, cdA_of hz] at e3
          have HCZ := Lib.hid (hc q z hz)
          have CYZ : Hid (∀ X, Calls Try.prog 10 #[.agg (cdA5 y), .agg (cdA5 z)] X fun e w' => e = .returned (.bool false) ∧ Below X.heap.size X w') := Lib.hid (fun X => by rw [← e3]; exact HBT.out y z X HYI.out (HM.out.ok z (List.mem_of_getElem? hz)))
          have q1 : ¬ ((q : Int) < -1) := by omega
          have q2 : ¬ ((i : Int) ≤ (q : Int)) := by have := hq.lt; omega
          have q3 : ¬ ((q : Int) < 0) := by omega
          have q4 : (q : Int) < (i : Int) := by have := hq.lt; omega
          have d1 : decide ((q : Int) < -1) = false := decide_eq_false q1
          have d2 : decide ((i : Int) ≤ (q : Int)) = false := decide_eq_false q2
          have d3 : decide ((q : Int) < 0) = false := decide_eq_false q3
          have d4 : decide (i ≤ q) = false := decide_eq_false (by omega)
          clear e3 hz hq hc hmay
          have y0 : wr.cell? ⟨g, o + j * 5, none⟩ = some (.int .i64 y.s) := (HCY.out.later HW.out).c0
          have y1 : wr.cell? ⟨g, o + j * 5 + 1, none⟩ = some (.int .i64 y.l) := (HCY.out.later HW.out).c1
          have y2 : wr.cell? ⟨g, o + j * 5 + 2, none⟩ = some (.int .i64 y.v) := (HCY.out.later HW.out).c2
          have y3 : wr.cell? ⟨g, o + j * 5 + 3, none⟩ = some (.int .i64 y.n) := (HCY.out.later HW.out).c3
          have y4 : wr.cell? ⟨g, o + j * 5 + 4, none⟩ = some (.int .u64 y.a) := (HCY.out.later HW.out).c4
          go_upto_region 14 with (go_at_call 13; refine (HPK2.out _ HW.out).mono ?_; rintro e6 w6 ⟨rfl, hb6⟩; have H6 := Lib.hid (HW.out.trans (hb6.mono HW.out.size)); clear hb6)
          clear y0 y1 y2 y3 y4
          have hI : ∀ jj : In (fun X => Below w6.heap.size w6 X), Below w.heap.size w jj.W := fun jj => H6.out.trans (jj.h.mono H6.out.size)
          have y0 : ∀ jj : In (fun X => Below w6.heap.size w6 X), jj.W.cell? ⟨g, o + j * 5, none⟩ = some (.int .i64 y.s) := fun jj => (HCY.out.later (hI jj)).c0
          have y1 : ∀ jj : In (fun X => Below w6.heap.size w6 X), jj.W.cell? ⟨g, o + j * 5 + 1, none⟩ = some (.int .i64 y.l) := fun jj => (HCY.out.later (hI jj)).c1
          have y2 : ∀ jj : In (fun X => Below w6.heap.size w6 X), jj.W.cell? ⟨g, o + j * 5 + 2, none⟩ = some (.int .i64 y.v) := fun jj => (HCY.out.later (hI jj)).c2
          have y3 : ∀ jj : In (fun X => Below w6.heap.size w6 X), jj.W.cell? ⟨g, o + j * 5 + 3, none⟩ = some (.int .i64 y.n) := fun jj => (HCY.out.later (hI jj)).c3
          have y4 : ∀ jj : In (fun X => Below w6.heap.size w6 X), jj.W.cell? ⟨g, o + j * 5 + 4, none⟩ = some (.int .u64 y.a) := fun jj => (HCY.out.later (hI jj)).c4
          have z0 : ∀ jj : In (fun X => Below w6.heap.size w6 X), jj.W.cell? ⟨g, o + q * 5, none⟩ = some (.int .i64 z.s) := fun jj => (HCZ.out.later (hI jj)).c0
          have z1 : ∀ jj : In (fun X => Below w6.heap.size w6 X), jj.W.cell? ⟨g, o + q * 5 + 1, none⟩ = some (.int .i64 z.l) := fun jj => (HCZ.out.later (hI jj)).c1
          have z2 : ∀ jj : In (fun X => Below w6.heap.size w6 X), jj.W.cell? ⟨g, o + q * 5 + 2, none⟩ = some (.int .i64 z.v) := fun jj => (HCZ.out.later (hI jj)).c2
          have z3 : ∀ jj : In (fun X => Below w6.heap.size w6 X), jj.W.cell? ⟨g, o + q * 5 + 3, none⟩ = some (.int .i64 z.n) := fun jj => (HCZ.out.later (hI jj)).c3
          have z4 : ∀ jj : In (fun X => Below w6.heap.size w6 X), jj.W.cell? ⟨g, o + q * 5 + 4, none⟩ = some (.int .u64 z.a) := fun jj => (HCZ.out.later (hI jj)).c4
          have I : Below w6.heap.size w6 { w6 with drawn := w6.drawn + 1 } := (Below.refl _ _).drew
          have hne : Nonempty (In (fun X => Below w6.heap.size w6 X)) := ⟨⟨_, I⟩⟩
          refine region_class (fun X => Below w6.heap.size w6 X) (by kernel_rfl) (by kernel_rfl) I ?_
          repeat (go_big_quiet_step (first
            | (go_at_call 10; with_reducible exact class_call _ (fun hi => (CYZ.out _).mono fun _ _ ⟨he, hb⟩ => ⟨he, hi.trans (hb.mono hi.size)⟩))))
          refine wpQuiet_nil ?_
          rintro _ ⟨jj, rfl⟩
          have H2 := Lib.hid (hI jj)
          clear I hne hI y0 y1 y2 y3 y4 z0 z1 z2 z3 z4
          generalize jj.W = X at *
          clear jj
          go_wp2_with (go_at_call 19; refine (HFX.out _).mono ?_; rintro e9 w9 ⟨rfl, hb9⟩; have H9 := Lib.hid (H2.out.trans (hb9.mono H2.out.size)); clear hb9)
          go_ret
          exact ⟨rfl, H9.out⟩

set_option maxRecDepth 100000 in
theorem lifted (P : Prg) (os : Os) (started : os.Started) (H : Type) (enc : TypeId × Value → H) :
    ReturnsInHanded {} Try.checked os 6 .any (Rows.victimBestSpec.pre6 enc Try.prog Try.f6 Rows.victimBestRow.domain false) (Rows.victimBestSpec.post enc Try.prog Try.f6 false true false false) := by
  refine returnsInHanded_of_change (C := Try.checked) own started (by kernel_rfl) Try.func6
    (ChangeSpec.witness6 (enc := enc) (C := Try.checked) false ⟨#[], #[.slice none 0 0, .int .i64 0, .int .i64 0], []⟩ 8 (by kernel_rfl) (by kernel_rfl) (by kernel_rfl) (by kernel_rfl)) ?_
  intro W base args ds gs before hval0 hW hcnd _
  have hval : ∀ (j : Nat) t v, Try.f6.params[j]? = some t → args[j]? = some v → Value.okWide Try.prog W .any base t v := hval0
  have hW' := hW
  obtain ⟨p, q, hA0, hV, rfl, hfz, hnd⟩ := hW
  have hA : DataW.TrodAll enc Try.prog W 0 (fun _ => true) true Try.f6.params.toList args.toList ds p := hA0
  rw [Try.params6] at hA hval
  obtain ⟨v0, vs0, d0, ds0, p0, q0, hargs, rfl, rfl, h0, r0⟩ := trodAll_cons hA
  obtain ⟨v1, vs1, d1, ds1, p1, q1, rfl, rfl, rfl, h1, r1⟩ := trodAll_cons r0
  obtain ⟨v2, vs2, d2, ds2, p2, q2, rfl, rfl, rfl, h2, r2⟩ := trodAll_cons r1
  obtain ⟨rfl, rfl, rfl⟩ := trodAll_nil r2
  obtain rfl : args = #[v0, v1, v2] := by cases args; simp_all
  obtain ⟨rfl, rfl⟩ := trodVars_none hV
  obtain ⟨A0, n0, c0, L0, rfl, hn0, hp0, hL0, ho0⟩ := open_cands (hval 0 22 v0 rfl rfl) h0
  obtain ⟨a1, rfl, rfl, rfl, w1⟩ := open_int Try.underlying3 (hval 1 3 v1 rfl rfl) h1
  obtain ⟨a2, rfl, rfl, rfl, w2⟩ := open_int Try.underlying3 (hval 2 3 v2 rfl rfl) h2
  clear hA0 hval0
  try simp only [List.append_nil] at hW'
  try simp only [List.nil_append] at hW'
  have hlt := fun x hx => hW'.lt x hx
  refine (walk P A0 n0 c0 L0 a1 a2 W hL0 hn0 hp0 ho0 (i64_of w1) (i64_of w2)).mono fun e W' ⟨he, hg⟩ => ?_
  subst he
  refine ⟨_, rfl, post_mem hW' (fun _ _ _ => (trodAll_cons_mk (shut_bool Try.underlying4 _) trodAll_mk0)) (fun sp hsp => ?_) (fun _ => rfl) hg (ok_one (by kernel_rfl) rfl (okWide_bool_mk Try.underlying4 _))⟩
  have hall := (trodAll_cons_mk (arg_same (sp := sp) laid (by kernel_rfl) (of_decide_eq_true (by kernel_rfl)) h0 hg (by intro x hx; simp_all) hlt hsp) (trodAll_cons_mk (arg_same (sp := sp) laid (by kernel_rfl) (of_decide_eq_true (by kernel_rfl)) h1 hg (by intro x hx; simp_all) hlt hsp) (trodAll_cons_mk (arg_same (sp := sp) laid (by kernel_rfl) (of_decide_eq_true (by kernel_rfl)) h2 hg (by intro x hx; simp_all) hlt hsp) trodAll_mk0)))
  try simp only [List.append_nil] at hall
  try simp only [List.nil_append] at hall
  exact hall

theorem over (P : Prg) : Rows.victimBestRow.holds Try.pinned (OpenSpec.ofChange Rows.victimBestSpec) :=
  OpenClaim.holds_of_wide 6 Try.f6 rfl rfl rfl rfl rfl rfl rfl ⟨rfl, rfl, rfl, rfl, rfl⟩ rfl rfl rfl rfl rfl (by kernel_rfl) Try.func6 (by kernel_rfl)
    (of_decide_eq_true (by kernel_rfl)) (by unfold Func.isWrapper; first | (rw [if_pos (by decide +kernel)]; kernel_rfl) | (rw [if_neg (by decide +kernel)]; exact ⟨rfl, rfl⟩))
    (fun os started H enc _ => lifted P os started H enc)

end Go.Proofs.Ytgepkomomjmmhaa.victimBest
