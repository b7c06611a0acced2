/- A part of the proofs of the statements about logs. -/
import Derived.Test.YtdpmjlbkojhooaaGreatPLgK
namespace Go.Proofs.YtdpmjlbkojhooaaGreat.Lg
open Go.RowKit Go.Lib
open Tb (Tab TIn Sl okP csT lastN nth Fresh)
open Dk (St Only Grew)
set_option linter.unusedVariables false
set_option maxRecDepth 100000
def smG (sg sl : Int) (x : Nat) (rt : Int) : Int := if Ck.MayC sg sl x rt then 4 + sg % 3 else sg
def smL (sg sl : Int) (x : Nat) (rt : Int) : Int := if Ck.MayC sg sl x rt then 1 + sl % 5 else sl
theorem small_may {sg sl rt : Int} {x : Nat} (h : Ck.MayC sg sl x rt) : Ck.MayC (smG sg sl x rt) (smL sg sl x rt) x rt ∧ smG sg sl x rt ≤ 6 ∧ smL sg sl x rt ≤ 5 := by
  unfold smG smL
  rw [if_pos h, if_pos h]
  obtain ⟨h1, h2, h3, h4⟩ := h
  exact ⟨⟨by omega, by omega, h3, h4⟩, by omega, by omega⟩
theorem small_not {sg sl rt : Int} {x : Nat} (h : ¬ Ck.MayC sg sl x rt) : ¬ Ck.MayC (smG sg sl x rt) (smL sg sl x rt) x rt := by
  unfold smG smL
  rw [if_neg h, if_neg h]
  exact h
set_option maxHeartbeats 4000000 in
theorem small_any (sg sl rt : Int) (x : Nat) (w : World) (hx : x < 18446744073709551616) :
    Calls Tryz.prog 10 #[.agg #[.int .i64 sg, .int .i64 sl, .float .f64 x, .int .i64 rt]] w fun e w' => e = .returned (.agg #[.int .i64 (smG sg sl x rt), .int .i64 (smL sg sl x rt), .float .f64 x, .int .i64 rt]) ∧ Below w.heap.size w w' := by
  have hvC := Tryz.zeroValue24
  have N1 : Tb.Blk (w.alloc (.cells (csF sg sl x rt) 24)) w.heap.size 24 (csF sg sl x rt) := Tb.Blk.new w _ _
  have bb1 := Tb.below1 w (.cells (csF sg sl x rt) 24)
  have N2 : Tb.Blk ((w.alloc (.cells (csF sg sl x rt) 24)).alloc (.cells (csF 0 0 0 0) 24)) (w.heap.size + 1) 24 (csF 0 0 0 0) := by
    have := Tb.Blk.new (w.alloc (.cells (csF sg sl x rt) 24)) 24 (csF 0 0 0 0)
    rw [show (w.alloc (.cells (csF sg sl x rt) 24)).heap.size = w.heap.size + 1 by simp] at this
    exact this
  have bb2 := bb1.trans ((Tb.below1 (w.alloc (.cells (csF sg sl x rt) 24)) (.cells (csF 0 0 0 0) 24)).mono bb1.size)
  have N1 := N1.later (Tb.below1 _ (.cells (csF 0 0 0 0) 24))
  go_enter Tryz.func10, Tryz.ntmps10
  go_upto_region 1 with (fail)
  change Code.wp _ _ _ _ ((w.alloc (.cells (csF sg sl x rt) 24)).alloc (.cells (csF 0 0 0 0) 24))
  generalize (w.alloc (.cells (csF sg sl x rt) 24)).alloc (.cells (csF 0 0 0 0) 24) = w1 at *
  clear hvC bb1
  by_cases hm : Ck.MayC sg sl x rt
  case neg =>
    have HC := Lib.hid (fun w => Ck.R4.may_no sg sl rt x w hx hm)
    have E1 := Lib.hid (show smG sg sl x rt = sg from if_neg hm)
    have E2 := Lib.hid (show smL sg sl x rt = sl from if_neg hm)
    clear hm
    go_wp2_with (with_reducible refine load_cf rfl (.tmp 1) rfl w.heap.size rfl N1 ?_)
    refine (HC.out _).mono ?_
    rintro e' w2 ⟨rfl, hb⟩
    have M1 := N1.later hb
    have M2 := N2.later hb
    have BB := Lib.hid (bb2.trans (hb.mono bb2.size))
    clear hb HC bb2 N1 N2
    go_wp2_with (first
      | (with_reducible refine load_cf rfl (.tmp 1) rfl w.heap.size rfl M1 ?_)
      | (with_reducible refine store_cf rfl (.tmp 2) (.tmp 15) rfl (w.heap.size + 1) rfl rfl M2 ?_))
    exact bodyPost_ret (res_cf rfl _ _ (w.heap.size + 1) rfl (M2.row _)) rfl ⟨by rw [E1.out, E2.out], Tb.below_row BB.out (by omega) _⟩
  have HC := Lib.hid (fun w => Ck.R4.may_yes sg sl rt x w hm)
  have HB := Lib.hid (And.intro hm.1 hm.2.1)
  obtain ⟨G, EG⟩ : ∃ z, sg.tmod 3 = z := ⟨_, rfl⟩
  obtain ⟨L, EL⟩ : ∃ z, sl.tmod 5 = z := ⟨_, rfl⟩
  have HG : Hid (sg % 3 = G) := Lib.hid (by rw [← EG, Int.tmod_eq_emod_of_nonneg (by have := HB.out; omega)])
  have HL : Hid (sl % 5 = L) := Lib.hid (by rw [← EL, Int.tmod_eq_emod_of_nonneg (by have := HB.out; omega)])
  have bG : 0 ≤ G ∧ G < 3 := by have := HG.out; omega
  have bL : 0 ≤ L ∧ L < 5 := by have := HL.out; omega
  have E1 : Hid (smG sg sl x rt = 4 + G) := Lib.hid (by rw [← HG.out]; exact if_pos hm)
  have E2 : Hid (smL sg sl x rt = 1 + L) := Lib.hid (by rw [← HL.out]; exact if_pos hm)
  clear hm
  go_wp2_with (with_reducible refine load_cf rfl (.tmp 1) rfl w.heap.size rfl N1 ?_)
  refine (HC.out _).mono ?_
  rintro e' w2 ⟨rfl, hb⟩
  have M1 := N1.later hb
  have M2 := N2.later hb
  have BB := Lib.hid (bb2.trans (hb.mono bb2.size))
  have c0 : w2.cell? ⟨w.heap.size, 0, none⟩ = some (.int .i64 sg) := M1.cell 0
  have c0f := M1.frozen 0
  clear hb HC bb2 N1 N2
  go_upto_region 3 with fail
  rw [set_row M1]
  have M1a := M1.row ((csF sg sl x rt).setIfInBounds 0 (.int .i64 (4 + G)))
  have M2a : Tb.Blk (w2.setRow w.heap.size ((csF sg sl x rt).setIfInBounds 0 (.int .i64 (4 + G)))) (w.heap.size + 1) 24 (csF 0 0 0 0) := (setRow_other w2 w.heap.size (w.heap.size + 1) _ (by omega)).trans M2
  have BA := Lib.hid (Tb.below_row BB.out (Nat.le_refl _) ((csF sg sl x rt).setIfInBounds 0 (.int .i64 (4 + G))))
  change Tb.Blk _ _ _ (csF (4 + G) sl x rt) at M1a
  generalize w2.setRow w.heap.size ((csF sg sl x rt).setIfInBounds 0 (.int .i64 (4 + G))) = w3 at *
  clear M1 M2 BB c0 c0f
  have c1 : w3.cell? ⟨w.heap.size, 1, none⟩ = some (.int .i64 sl) := M1a.cell 1
  have c1f := M1a.frozen 1
  go_upto_region 4 with fail
  rw [set_row M1a]
  have M1b := M1a.row ((csF (4 + G) sl x rt).setIfInBounds 1 (.int .i64 (1 + L)))
  have M2b : Tb.Blk (w3.setRow w.heap.size ((csF (4 + G) sl x rt).setIfInBounds 1 (.int .i64 (1 + L)))) (w.heap.size + 1) 24 (csF 0 0 0 0) := (setRow_other w3 w.heap.size (w.heap.size + 1) _ (by omega)).trans M2a
  have BC := Lib.hid (Tb.below_row BA.out (Nat.le_refl _) ((csF (4 + G) sl x rt).setIfInBounds 1 (.int .i64 (1 + L))))
  change Tb.Blk _ _ _ (csF (4 + G) (1 + L) x rt) at M1b
  generalize w3.setRow w.heap.size ((csF (4 + G) sl x rt).setIfInBounds 1 (.int .i64 (1 + L))) = w4 at *
  clear M1a M2a BA c1 c1f
  go_wp2_with (first
    | (with_reducible refine load_cf rfl (.tmp 1) rfl w.heap.size rfl M1b ?_)
    | (with_reducible refine store_cf rfl (.tmp 2) (.tmp 15) rfl (w.heap.size + 1) rfl rfl M2b ?_))
  exact bodyPost_ret (res_cf rfl _ _ (w.heap.size + 1) rfl (M2b.row _)) rfl ⟨by rw [E1.out, E2.out], Tb.below_row BC.out (by omega) _⟩
end Go.Proofs.YtdpmjlbkojhooaaGreat.Lg
