/- The program's gain, cost, compare and Better. -/
import Derived.Test.YtgepkomomjmmhaaVjA
namespace Go.Proofs.Ytgepkomomjmmhaa.Vj
open Go.ChangeShapes Go.WideShapes Go.ChangeAt Go.RowKit Go.Lib Go.Joins Go.Deep
open Sp Vi
set_option linter.unusedVariables false
set_option maxRecDepth 100000

set_option maxHeartbeats 1000000 in
theorem gain_p (c : Cd) (w : World) (h : CIn c) : Calls Try.prog 29 #[.agg (cdA5 c)] w fun e w' => e = .returned (.int .u64 (gain c)) ∧ Below w.heap.size w w' := by
  have n1 := num_ge c
  have n2 := num_le c
  have v1 := liv_ge c
  have v2 := liv_le c
  have w1 : IntKind.i64.wrap (num c - liv c) = num c - liv c := IntWalk.i64_in _ (by omega)
  have w2 : IntKind.u64.wrap (num c - liv c) = num c - liv c := IntWalk.u64_in _ (by omega)
  have w3 : IntKind.u64.wrap ((num c - liv c) * min c.a 1099511627776) = gain c := IntWalk.u64_in _ ⟨gain_ge h.a, by have := gain_le h.a; unfold gain at this; unfold agec at this; omega⟩
  have RC := Lib.hid (fun X => rec_any c X)
  have LC := Lib.hid (fun X => liv_any c X)
  generalize gain c = Z at *
  generalize liv c = V at *
  generalize num c = N at *
  clear n1 n2 v1 v2
  obtain ⟨s, l, v, n, a⟩ := c
  clear h
  obtain ⟨W, hW⟩ : ∃ W, w.alloc (.cells (cdA5 ⟨s, l, v, n, a⟩) 25) = W := ⟨_, rfl⟩
  have HB := Lib.hid (show Below w.heap.size w W by rw [← hW]; exact below1 _ _)
  have BA : Sp.Blk W w.heap.size 25 (cdA5 ⟨s, l, v, n, a⟩) := by rw [← hW]; exact Sp.Blk.new w 25 (cdA5 ⟨s, l, v, n, a⟩)
  have a0 : ∀ jj : In (fun X => Below W.heap.size W X), Sp.Blk jj.W w.heap.size 25 (cdA5 ⟨s, l, v, n, a⟩) := fun jj => BA.later jj.h
  have a1 := fun jj => (CC.blk (a0 jj)).c0
  have a2 := fun jj => (CC.blk (a0 jj)).c1
  have a3 := fun jj => (CC.blk (a0 jj)).c2
  have a4 := fun jj => (CC.blk (a0 jj)).c3
  have a5 := fun jj => (CC.blk (a0 jj)).c4
  clear a0 BA
  go_enter Try.func29, Try.ntmps29
  go_upto_region 1 with fail
  have I : Below W.heap.size W { W with drawn := W.drawn + 1 } := (Below.refl _ _).drew
  have hne : Nonempty (In (fun X => Below W.heap.size W X)) := ⟨⟨_, I⟩⟩
  refine region_class (fun X => Below W.heap.size W X) (by kernel_rfl) (by kernel_rfl) I ?_
  repeat (go_big_quiet_step (first
    | (go_at_call 34; with_reducible exact class_call _ (fun hi => (RC.out _).mono fun _ _ ⟨he, hb⟩ => ⟨he, hi.trans (hb.mono hi.size)⟩))
    | (go_at_call 35; with_reducible exact class_call _ (fun hi => (LC.out _).mono fun _ _ ⟨he, hb⟩ => ⟨he, hi.trans (hb.mono hi.size)⟩))))
  refine wpQuiet_nil ?_
  rintro _ ⟨jj, rfl⟩
  have HX := Lib.hid (HB.out.trans (jj.h.mono HB.out.size))
  generalize jj.W = X at *
  clear jj hne I
  go_wp2_with fail
  go_ret
  exact ⟨rfl, HX.out⟩

set_option maxHeartbeats 1000000 in
theorem cost_p (c : Cd) (w : World) (h : CIn c) : Calls Try.prog 30 #[.agg (cdA5 c)] w fun e w' => e = .returned (.int .u64 (cost c)) ∧ Below w.heap.size w w' := by
  have n1 := num_ge c
  have n2 := num_le c
  have v1 := liv_ge c
  have v2 := liv_le c
  have w1 : IntKind.i64.wrap (num c + liv c) = num c + liv c := IntWalk.i64_in _ (by omega)
  have w2 : IntKind.u64.wrap (max (num c + liv c) 1) = max (num c + liv c) 1 := IntWalk.u64_in _ (by omega)
  have HG := Lib.hid (show max (num c + liv c) 1 = cost c by unfold cost; split <;> omega)
  have RC := Lib.hid (fun X => rec_any c X)
  have LC := Lib.hid (fun X => liv_any c X)
  generalize cost c = Z at *
  generalize liv c = V at *
  generalize num c = N at *
  clear n1 n2 v1 v2
  obtain ⟨s, l, v, n, a⟩ := c
  clear h
  obtain ⟨W, hW⟩ : ∃ W, w.alloc (.cells (cdA5 ⟨s, l, v, n, a⟩) 25) = W := ⟨_, rfl⟩
  have HB := Lib.hid (show Below w.heap.size w W by rw [← hW]; exact below1 _ _)
  have BA : Sp.Blk W w.heap.size 25 (cdA5 ⟨s, l, v, n, a⟩) := by rw [← hW]; exact Sp.Blk.new w 25 (cdA5 ⟨s, l, v, n, a⟩)
  have a0 : ∀ jj : In (fun X => Below W.heap.size W X), Sp.Blk jj.W w.heap.size 25 (cdA5 ⟨s, l, v, n, a⟩) := fun jj => BA.later jj.h
  have a1 := fun jj => (CC.blk (a0 jj)).c0
  have a2 := fun jj => (CC.blk (a0 jj)).c1
  have a3 := fun jj => (CC.blk (a0 jj)).c2
  have a4 := fun jj => (CC.blk (a0 jj)).c3
  have a5 := fun jj => (CC.blk (a0 jj)).c4
  clear a0 BA
  go_enter Try.func30, Try.ntmps30
  go_upto_region 1 with fail
  have I : Below W.heap.size W { W with drawn := W.drawn + 1 } := (Below.refl _ _).drew
  have hne : Nonempty (In (fun X => Below W.heap.size W X)) := ⟨⟨_, I⟩⟩
  refine region_class (fun X => Below W.heap.size W X) (by kernel_rfl) (by kernel_rfl) I ?_
  repeat (go_big_quiet_step (first
    | (go_at_call 34; with_reducible exact class_call _ (fun hi => (RC.out _).mono fun _ _ ⟨he, hb⟩ => ⟨he, hi.trans (hb.mono hi.size)⟩))
    | (go_at_call 35; with_reducible exact class_call _ (fun hi => (LC.out _).mono fun _ _ ⟨he, hb⟩ => ⟨he, hi.trans (hb.mono hi.size)⟩))))
  refine wpQuiet_nil ?_
  rintro _ ⟨jj, rfl⟩
  have HX := Lib.hid (HB.out.trans (jj.h.mono HB.out.size))
  generalize jj.W = X at *
  clear jj hne I
  go_wp2_with fail
  go_ret
  exact ⟨by rw [← HG.out]; rfl, HX.out⟩

set_option maxHeartbeats 1000000 in
theorem nan_p (x : Int) (w : World) : Calls Try.prog 38 #[.int .u64 x] w fun e w' => e = .returned (.bool false) ∧ w' = w := by
  go_enter Try.func38, Try.ntmps38
  go_wp2_with fail
  go_ret
  exact ⟨by simp, rfl⟩
/-- The sign of a difference. -/
def sg (x y : Int) : Int := if x < y then -1 else if y < x then 1 else 0
set_option maxHeartbeats 1000000 in
theorem cmp_p (x y : Int) (w : World) : Calls Try.prog 33 #[.int .u64 x, .int .u64 y] w fun e w' => e = .returned (.int .i64 (sg x y)) ∧ w' = w := by
  have NX := Lib.hid (fun X => nan_p x X)
  have NY := Lib.hid (fun X => nan_p y X)
  by_cases h1 : x < y
  · have h2 : sg x y = -1 := by unfold sg; rw [if_pos h1]
    rw [h2]
    clear h2
    go_enter Try.func33, Try.ntmps33
    go_wp2_with (first
      | (go_at_call 38; with_reducible refine (NX.out _).mono ?_; rintro _ _ ⟨rfl, rfl⟩)
      | (go_at_call 38; with_reducible refine (NY.out _).mono ?_; rintro _ _ ⟨rfl, rfl⟩))
    go_ret
    exact ⟨rfl, rfl⟩
  · by_cases h2 : y < x
    · have h3 : sg x y = 1 := by unfold sg; rw [if_neg h1, if_pos h2]
      rw [h3]
      clear h3
      go_enter Try.func33, Try.ntmps33
      go_wp2_with (first
        | (go_at_call 38; with_reducible refine (NX.out _).mono ?_; rintro _ _ ⟨rfl, rfl⟩)
        | (go_at_call 38; with_reducible refine (NY.out _).mono ?_; rintro _ _ ⟨rfl, rfl⟩))
      go_ret
      exact ⟨rfl, rfl⟩
    · have h3 : sg x y = 0 := by unfold sg; rw [if_neg h1, if_neg h2]
      rw [h3]
      clear h3
      go_enter Try.func33, Try.ntmps33
      go_wp2_with (first
        | (go_at_call 38; with_reducible refine (NX.out _).mono ?_; rintro _ _ ⟨rfl, rfl⟩)
        | (go_at_call 38; with_reducible refine (NY.out _).mono ?_; rintro _ _ ⟨rfl, rfl⟩))
      go_ret
      exact ⟨rfl, rfl⟩
set_option maxHeartbeats 1000000 in
theorem prod_p (a b c d x y : Int) (w : World) (hx : IntKind.u64.wrap (a * b) = x) (hy : IntKind.u64.wrap (c * d) = y) : Calls Try.prog 28 #[.int .u64 a, .int .u64 b, .int .u64 c, .int .u64 d] w fun e w' => e = .returned (.int .i64 (sg x y)) ∧ w' = w := by
  have CC := Lib.hid (fun X => cmp_p x y X)
  generalize sg x y = s at *
  go_enter Try.func28, Try.ntmps28
  go_wp2_with (go_at_call 33; with_reducible refine (CC.out _).mono ?_; rintro _ _ ⟨rfl, rfl⟩)
  go_ret
  exact ⟨rfl, rfl⟩
/-- How two are held against each other. -/
def cmpc (a b : Cd) : Int := sg (gain a * cost b) (gain b * cost a)
theorem cmpc_pos (a b : Cd) : decide (0 < cmpc a b) = better a b := by
  unfold cmpc sg better
  split
  · rw [decide_eq_false (by decide), decide_eq_false (by omega)]
  · split
    · rw [decide_eq_true (by decide), decide_eq_true (by assumption)]
    · rw [decide_eq_false (by decide), decide_eq_false (by assumption)]
theorem cmpc_neg (a b : Cd) : decide (cmpc a b < 0) = better b a := by
  unfold cmpc sg better
  split
  · rw [decide_eq_true (by decide), decide_eq_true (by assumption)]
  · split
    · rw [decide_eq_false (by decide), decide_eq_false (by omega)]
    · rw [decide_eq_false (by decide), decide_eq_false (by assumption)]
set_option maxHeartbeats 2000000 in
theorem compare_p (a b : Cd) (w : World) (ha : CIn a) (hb : CIn b) : Calls Try.prog 20 #[.agg (cdA5 a), .agg (cdA5 b)] w fun e w' => e = .returned (.int .i64 (cmpc a b)) ∧ Below w.heap.size w w' := by
  obtain ⟨W, hW⟩ : ∃ W, (w.alloc (.cells (cdA5 a) 25)).alloc (.cells (cdA5 b) 25) = W := ⟨_, rfl⟩
  have HB := Lib.hid (show Below w.heap.size w W by rw [← hW]; exact ((Below.refl _ _).alloc (Nat.le_refl _) _).alloc (by simp) _)
  have BA : Sp.Blk W w.heap.size 25 (cdA5 a) := by rw [← hW]; exact (Sp.Blk.new w 25 (cdA5 a)).later (below1 _ _)
  have BB : Sp.Blk W (w.heap.size + 1) 25 (cdA5 b) := by rw [← hW]; exact Sp.Blk.at_ _ _ _ (by simp)
  have GA := Lib.hid (fun X => gain_p a X ha)
  have GB := Lib.hid (fun X => gain_p b X hb)
  have KA := Lib.hid (fun X => cost_p a X ha)
  have KB := Lib.hid (fun X => cost_p b X hb)
  have w1 : IntKind.u64.wrap (gain a * cost b) = gain a * cost b := IntWalk.u64_in _ ⟨prod_ge ha.a, by have := prod_lt (b := b) ha.a; omega⟩
  have w2 : IntKind.u64.wrap (gain b * cost a) = gain b * cost a := IntWalk.u64_in _ ⟨prod_ge hb.a, by have := prod_lt (b := a) hb.a; omega⟩
  have PC := Lib.hid (fun X => prod_p (gain a) (cost b) (gain b) (cost a) _ _ X w1 w2)
  change Hid (∀ X, Calls Try.prog 28 #[.int .u64 (gain a), .int .u64 (cost b), .int .u64 (gain b), .int .u64 (cost a)] X fun e w' => e = .returned (.int .i64 (cmpc a b)) ∧ w' = X) at PC
  generalize cmpc a b = R at *
  clear w1 w2
  generalize gain a = ga at *
  generalize gain b = gb at *
  generalize cost a = ka at *
  generalize cost b = kb at *
  have a0 : ∀ jj : In (fun X => Below W.heap.size W X), Sp.Blk jj.W w.heap.size 25 (cdA5 a) := fun jj => BA.later jj.h
  have a1 := fun jj => (CC.blk (a0 jj)).c0
  have a2 := fun jj => (CC.blk (a0 jj)).c1
  have a3 := fun jj => (CC.blk (a0 jj)).c2
  have a4 := fun jj => (CC.blk (a0 jj)).c3
  have a5 := fun jj => (CC.blk (a0 jj)).c4
  have b0 : ∀ jj : In (fun X => Below W.heap.size W X), Sp.Blk jj.W (w.heap.size + 1) 25 (cdA5 b) := fun jj => BB.later jj.h
  have b1 := fun jj => (CC.blk (b0 jj)).c0
  have b2 := fun jj => (CC.blk (b0 jj)).c1
  have b3 := fun jj => (CC.blk (b0 jj)).c2
  have b4 := fun jj => (CC.blk (b0 jj)).c3
  have b5 := fun jj => (CC.blk (b0 jj)).c4
  clear a0 b0 BA BB
  go_enter Try.func20, Try.ntmps20
  go_upto_region 1 with fail
  have I : Below W.heap.size W { W with drawn := W.drawn + 1 } := (Below.refl _ _).drew
  have hne : Nonempty (In (fun X => Below W.heap.size W X)) := ⟨⟨_, I⟩⟩
  refine region_class (fun X => Below W.heap.size W X) (by kernel_rfl) (by kernel_rfl) I ?_
  repeat (go_big_quiet_step (first
    | (go_at_call 29; with_reducible exact class_call _ (fun hi => (GA.out _).mono fun _ _ ⟨he, hb⟩ => ⟨he, hi.trans (hb.mono hi.size)⟩))
    | (go_at_call 29; with_reducible exact class_call _ (fun hi => (GB.out _).mono fun _ _ ⟨he, hb⟩ => ⟨he, hi.trans (hb.mono hi.size)⟩))
    | (go_at_call 30; with_reducible exact class_call _ (fun hi => (KA.out _).mono fun _ _ ⟨he, hb⟩ => ⟨he, hi.trans (hb.mono hi.size)⟩))
    | (go_at_call 30; with_reducible exact class_call _ (fun hi => (KB.out _).mono fun _ _ ⟨he, hb⟩ => ⟨he, hi.trans (hb.mono hi.size)⟩))
    | (go_at_call 28; with_reducible exact class_call _ (fun hi => (PC.out _).mono fun _ _ ⟨he, hb⟩ => ⟨he, hb ▸ hi⟩))))
  refine wpQuiet_nil ?_
  rintro _ ⟨jj, rfl⟩
  have HX := Lib.hid (HB.out.trans (jj.h.mono HB.out.size))
  generalize jj.W = X at *
  clear jj hne I
  go_wp2_with fail
  go_ret
  exact ⟨rfl, HX.out⟩
set_option maxHeartbeats 2000000 in
theorem better_p (a b : Cd) (w : World) (ha : CIn a) (hb : CIn b) : Calls Try.prog 10 #[.agg (cdA5 a), .agg (cdA5 b)] w fun e w' => e = .returned (.bool (better a b)) ∧ Below w.heap.size w w' := by
  obtain ⟨W, hW⟩ : ∃ W, (w.alloc (.cells (cdA5 a) 25)).alloc (.cells (cdA5 b) 25) = W := ⟨_, rfl⟩
  have HB := Lib.hid (show Below w.heap.size w W by rw [← hW]; exact ((Below.refl _ _).alloc (Nat.le_refl _) _).alloc (by simp) _)
  have BA : Sp.Blk W w.heap.size 25 (cdA5 a) := by rw [← hW]; exact (Sp.Blk.new w 25 (cdA5 a)).later (below1 _ _)
  have BB : Sp.Blk W (w.heap.size + 1) 25 (cdA5 b) := by rw [← hW]; exact Sp.Blk.at_ _ _ _ (by simp)
  have PC := Lib.hid (fun X => compare_p a b X ha hb)
  have HR := Lib.hid (cmpc_pos a b)
  generalize cmpc a b = R at *
  have a1 := (CC.blk BA).c0
  have a2 := (CC.blk BA).c1
  have a3 := (CC.blk BA).c2
  have a4 := (CC.blk BA).c3
  have a5 := (CC.blk BA).c4
  have b1 := (CC.blk BB).c0
  have b2 := (CC.blk BB).c1
  have b3 := (CC.blk BB).c2
  have b4 := (CC.blk BB).c3
  have b5 := (CC.blk BB).c4
  clear BA BB
  go_enter Try.func10, Try.ntmps10
  go_upto_region 1 with fail
  go_wp2_with (go_at_call 20; with_reducible refine (PC.out _).mono ?_; rintro e1 w1 ⟨rfl, hb1⟩; have H1 := Lib.hid (HB.out.trans (hb1.mono HB.out.size)))
  go_ret
  exact ⟨ret_bool HR.out, H1.out⟩
end Go.Proofs.Ytgepkomomjmmhaa.Vj
