/- The program's sort of places by insertion. -/
import Derived.Test.YtgepkomomjmmhaaVjD
import Derived.BigRegion
namespace Go.Proofs.Ytgepkomomjmmhaa.Vj
open Go.ChangeShapes Go.WideShapes Go.ChangeAt Go.RowKit Go.Lib Go.Joins Go.Deep
open Sp Vi
set_option linter.unusedVariables false
set_option maxRecDepth 100000

/-- A row of places. -/
def pv (o : List Nat) : List Value := iv (o.map Int.ofNat)
theorem pv_len (o : List Nat) : (pv o).length = o.length := by unfold pv; rw [iv_len, List.length_map]
theorem pv_at {o : List Nat} {i a : Nat} (h : o[i]? = some a) : (pv o)[i]? = some (.int .i64 (a : Nat)) := iv_at (b := Int.ofNat a) (by rw [List.getElem?_map, h]; rfl)
theorem pv_set (o : List Nat) (i a : Nat) : (pv o).set i (.int .i64 (a : Nat)) = pv (o.set i a) := by
  unfold pv iv
  rw [List.map_set, List.map_set]
  rfl
abbrev itO (g n q : Nat) (o : List Nat) : Sp.Item := rowS 3 1 (.slice (some ⟨g, 0, none⟩) n q) n (pv o)
theorem itO_cell {W w : World} {g n q : Nat} {o : List Nat} (h : Sp.Sep W w [itO g n q o]) {i a : Nat} (hi : o[i]? = some a) (hn : n = o.length) : w.cell? ⟨g, i, none⟩ = some (.int .i64 (a : Nat)) := by
  have hl := (List.getElem?_eq_some_iff.1 hi).1
  obtain ⟨g', e, hc⟩ := rows_cell h (k := 0) rfl (by omega)
  injection e with e
  injection e with e
  subst e
  rw [hc i (by omega)]
  exact pv_at hi
theorem itO_frozen {W w : World} {g n q : Nat} {o : List Nat} (h : Sp.Sep W w [itO g n q o]) (i : Nat) : w.frozen? ⟨g, i, none⟩ = false := by
  obtain ⟨cur, hb⟩ := rows_blk h (k := 0) rfl
  exact hb.frozen i
theorem itO_put {W w : World} {g n q : Nat} {o : List Nat} (h : Sp.Sep W w [itO g n q o]) (i a : Nat) : Sp.Sep W (w.setCell ⟨g, i, none⟩ (.int .i64 (a : Nat))) [itO g n q (o.set i a)] := by
  have h1 := rows_put h (k := 0) rfl i (.int .i64 (a : Nat))
  rw [pv_set] at h1
  exact h1

set_option maxHeartbeats 4000000 in
theorem ins_p (A : Option Addr) (n p : Nat) (L : List Cd) (lb g q : Nat) (W w : World) (hC : CR W A n L) (hb : W.cell? ⟨lb, 0, none⟩ = some (.slice A n p)) (hin : ∀ x ∈ L, CIn x) (hn : n ≤ 20) (hq : n ≤ q)
    (hS : Sp.Sep W w [itO g n q (List.range n)]) :
    Calls Try.prog 36 #[.slice (some ⟨g, 0, none⟩) n q, .int .i64 0, .int .i64 (n : Nat), .func (.func 27) #[] #[.pointer (some ⟨lb, 0, none⟩)]] w fun e w' => e = .returned (.tuple #[]) ∧ Sp.Sep W w' [itO g n q (ord n (cdA L))] := by
  have HN := Lib.hid hn
  have HIN := Lib.hid hin
  have HL := Lib.hid hC.len
  have HC := Lib.hid hC
  have HBX := Lib.hid hb
  have HQ := Lib.hid hq
  have H0 := Lib.hid hS
  clear hn hin hC hb hS
  go_enter Try.func36, Try.ntmps36
  go_upto_region 1 with fail
  go_loopg [8] n (fun gk s8 wr => ∃ (i : Nat) (o : List Nat), i ≤ n + 1 ∧ gk = n + 1 - i ∧ s8 = .int .i64 (i : Nat) ∧ Hid (1 ≤ i ∧ Srt n (cdA L) i o) ∧ Hid (Sp.Sep W wr [itO g n q o]))
  case atStart => exact ⟨1, List.range n, by omega, by omega, rfl, Lib.hid ⟨Nat.le_refl _, Srt.start n _ 1 (Nat.le_refl _)⟩, H0⟩
  case round =>
    clear H0
    obtain ⟨i, o, hi, hgk, rfl, HI, HS⟩ := hrel
    have HGK := Lib.hid hgk
    clear hgk
    by_cases hin : i < n
    · have hl : (i : Int) < (n : Int) := by omega
      have wi : IntKind.i64.wrap ((i : Int) + 1) = (i : Int) + 1 := IntWalk.i64_in _ (by have := HN.out; omega)
      have HINN := Lib.hid hin
      have HJ0 : Hid (Ins n (cdA L) i i o) := Lib.hid (HI.out.2.ins hin)
      go_upto_region 4 with fail
      go_loopg [9] i (fun gj s9 wj => ∃ (j : Nat) (oj : List Nat), j ≤ i ∧ gj = j ∧ s9 = .int .i64 (j : Nat) ∧ Hid (Ins n (cdA L) i j oj) ∧ Hid (Sp.Sep W wj [itO g n q oj]))
      case atStart => exact ⟨i, o, Nat.le_refl _, rfl, rfl, HJ0, HS⟩
      case round =>
        obtain ⟨j, oj, hj, hgj, rfl, HI2, HS2⟩ := hrel
        have HGJ := Lib.hid hgj
        clear hgj HJ0 HS
        have HII := Lib.hid (⟨HI.out.1, HI2.out.il⟩ : 1 ≤ i ∧ i < n)
        cases j with
        | zero =>
          have hd : decide ((0 : Int) > 0) = false := rfl
          have HZ := Lib.hid HI2.out.none
          clear HI2
          go_upto_region 4 with fail
          have I : Below wr.heap.size wr { wr with drawn := wr.drawn + 1 } := (Below.refl _ _).drew
          have hne : Nonempty (In (fun X => Below wr.heap.size wr X)) := ⟨⟨_, I⟩⟩
          refine region_class (fun X => Below wr.heap.size wr X) (by kernel_rfl) (by kernel_rfl) I ?_
          repeat (go_big_quiet_step (fail))
          refine wpQuiet_nil ?_
          rintro _ ⟨jj, rfl⟩
          have HY := Lib.hid (HS2.out.later jj.h)
          generalize jj.W = X at *
          clear jj hne I
          go_wp2_with fail
          go_roundg (n + 1 - (i + 1))
          case measure => have := HGK.out; have := HINN.out; omega
          case rel => exact ⟨i + 1, oj, by have := HINN.out; omega, by have := HGK.out; have := HINN.out; omega, by go_num, Lib.hid ⟨by omega, HZ.out⟩, HY⟩
        | succ jp =>
          have hji : jp < i := by omega
          have hjn : (jp : Int) + 1 < (n : Int) := by have := HII.out.2; omega
          have hjn2 : (jp : Int) < (n : Int) := by omega
          have hd : decide ((jp : Int) + 1 > 0) = true := decide_eq_true (by omega)
          have w1 : IntKind.i64.wrap ((jp : Int) + 1 - 1) = (jp : Int) := by rw [show (jp : Int) + 1 - 1 = jp by omega]; exact IntWalk.i64_in _ (by have := HN.out; omega)
          have w2 : IntKind.i64.wrap (jp : Int) = (jp : Int) := IntWalk.i64_in _ (by have := HN.out; omega)
          obtain ⟨jn, hjnn⟩ : ∃ m, jp + 1 = m := ⟨_, rfl⟩
          have e1 : ((jp : Int) + 1).toNat = jn := by omega
          obtain ⟨pp, hpp⟩ : ∃ x, oj[jp]? = some x := ⟨_, List.getElem?_eq_getElem (by rw [HI2.out.len]; omega)⟩
          have hpn : pp < n := HI2.out.lt pp (List.mem_of_getElem? hpp)
          obtain ⟨x, hx⟩ : ∃ x, L[i]? = some x := ⟨_, List.getElem?_eq_getElem (by have := HL.out; have := HII.out.2; omega)⟩
          obtain ⟨y, hy⟩ : ∃ y, L[pp]? = some y := ⟨_, List.getElem?_eq_getElem (by have := HL.out; omega)⟩
          have EBP : Hid (better (cdA L i) (cdA L pp) = better x y) := Lib.hid (by rw [cdA_of hx, cdA_of hy])
          have OC : Hid (∀ X, Below wr.heap.size wr X → Calls Try.prog 27 #[.int .i64 (i : Nat), .int .i64 (pp : Nat), .pointer (some ⟨lb, 0, none⟩)] X fun e w' => e = .returned (.int .i64 (cmpc y x)) ∧ Below X.heap.size X w') := Lib.hid (fun X hX => by
            have hb := HS2.out.below.trans (hX.mono HS2.out.below.size)
            exact ordc_p A n p L lb i pp x y X (HC.out.later hb) ((hb.cell (World.block_lt_of_cell? _ _ HBX.out)).trans HBX.out) HIN.out hx hy)
          have c1 : ∀ jj : In (fun X => Below wr.heap.size wr X), jj.W.cell? ⟨g, jn, none⟩ = some (.int .i64 (i : Nat)) := fun jj => itO_cell (HS2.out.later jj.h) (by rw [← hjnn]; exact HI2.out.at_) HI2.out.len.symm
          have c2 : ∀ jj : In (fun X => Below wr.heap.size wr X), jj.W.cell? ⟨g, jp, none⟩ = some (.int .i64 (pp : Nat)) := fun jj => itO_cell (HS2.out.later jj.h) hpp HI2.out.len.symm
          have HPP := Lib.hid hpp
          have HJN := Lib.hid hjnn
          clear hpp hpn hx hy hjnn
          have ED := cmpc_neg y x
          cases hbt : better x y with
          | true =>
            rw [hbt] at ED EBP
            generalize cmpc y x = R at *
            clear hbt
            go_upto_region 4 with fail
            have I : Below wr.heap.size wr { wr with drawn := wr.drawn + 1 } := (Below.refl _ _).drew
            have hne : Nonempty (In (fun X => Below wr.heap.size wr X)) := ⟨⟨_, I⟩⟩
            refine region_class (fun X => Below wr.heap.size wr X) (by kernel_rfl) (by kernel_rfl) I ?_
            repeat (go_big_quiet_step (first
              | (go_at_call 27; with_reducible exact class_call _ (fun hi => (OC.out _ hi).mono fun _ _ ⟨he, hb⟩ => ⟨he, hi.trans (hb.mono hi.size)⟩))))
            refine wpQuiet_nil ?_
            rintro _ ⟨jj, rfl⟩
            have HY := Lib.hid (HS2.out.later jj.h)
            generalize jj.W = X at *
            clear jj hne I c1 c2 OC
            have k1 : X.cell? ⟨g, jn, none⟩ = some (.int .i64 (i : Nat)) := itO_cell HY.out (by rw [← HJN.out]; exact HI2.out.at_) HI2.out.len.symm
            have k2 : X.cell? ⟨g, jp, none⟩ = some (.int .i64 (pp : Nat)) := itO_cell HY.out HPP.out HI2.out.len.symm
            have f1 := itO_frozen HY.out jn
            have f2 := itO_frozen HY.out jp
            have S1 := itO_put HY.out jn pp
            have k3 : (X.setCell ⟨g, jn, none⟩ (.int .i64 (pp : Nat))).cell? ⟨g, jp, none⟩ = some (.int .i64 (pp : Nat)) := itO_cell S1 (by rw [List.getElem?_set_ne (by have := HJN.out; omega)]; exact HPP.out) (by rw [List.length_set]; exact HI2.out.len.symm)
            have f3 := itO_frozen S1 jp
            have H6 := Lib.hid (itO_put S1 jp i)
            have HI6 : Hid (Ins n (cdA L) i jp ((oj.set jn pp).set jp i)) := Lib.hid (by rw [← HJN.out]; exact HI2.out.swap HPP.out (by rw [EBP.out]))
            clear S1 HI2
            go_wp2_with fail
            go_big_region
            clear k1 k2 k3 f1 f2 f3
            have H7 := Lib.hid H6.out.drew
            clear H6 HY HS2
            generalize ((X.setCell ⟨g, jn, none⟩ (.int .i64 (pp : Nat))).setCell ⟨g, jp, none⟩ (.int .i64 (i : Nat))).drew = Y at *
            go_wp2_with fail
            go_roundg jp
            case measure => have := HGJ.out; omega
            case rel => exact ⟨jp, _, by omega, rfl, by go_num, HI6, H7⟩
          | false =>
            rw [hbt] at ED EBP
            generalize cmpc y x = R at *
            clear hbt
            go_upto_region 4 with fail
            have I : Below wr.heap.size wr { wr with drawn := wr.drawn + 1 } := (Below.refl _ _).drew
            have hne : Nonempty (In (fun X => Below wr.heap.size wr X)) := ⟨⟨_, I⟩⟩
            refine region_class (fun X => Below wr.heap.size wr X) (by kernel_rfl) (by kernel_rfl) I ?_
            repeat (go_big_quiet_step (first
              | (go_at_call 27; with_reducible exact class_call _ (fun hi => (OC.out _ hi).mono fun _ _ ⟨he, hb⟩ => ⟨he, hi.trans (hb.mono hi.size)⟩))))
            refine wpQuiet_nil ?_
            rintro _ ⟨jj, rfl⟩
            have HY := Lib.hid (HS2.out.later jj.h)
            generalize jj.W = X at *
            clear jj hne I c1 c2 OC
            have HZ := Lib.hid (HI2.out.stop HPP.out EBP.out)
            clear HI2
            go_wp2_with fail
            go_roundg (n + 1 - (i + 1))
            case measure => have := HGK.out; have := HINN.out; omega
            case rel => exact ⟨i + 1, oj, by have := HINN.out; omega, by have := HGK.out; have := HINN.out; omega, by go_num, Lib.hid ⟨by omega, HZ.out⟩, HY⟩
    · have hl : ¬ (i : Int) < (n : Int) := by omega
      have HO := Lib.hid (HI.out.2.ord (by omega))
      go_wp2_with fail
      go_end0
      exact ⟨rfl, by rw [← HO.out]; exact HS.out⟩
end Go.Proofs.Ytgepkomomjmmhaa.Vj
