/- The program's records, lives, gain, cost, compare and Better. -/
import Derived.Test.YtgepkomomjmmhaaViK
namespace Go.Proofs.Ytgepkomomjmmhaa.Vj
open Go.ChangeShapes Go.WideShapes Go.ChangeAt Go.RowKit Go.Lib Go.Joins Go.Deep
open Sp Vi
set_option linter.unusedVariables false
set_option maxRecDepth 100000

set_option maxHeartbeats 1000000 in
theorem rec_any (c : Cd) (w : World) : Calls Try.prog 34 #[.agg (cdA5 c)] w fun e w' => e = .returned (.int .i64 (num c)) ∧ Below w.heap.size w w' := by
  have hg : min (max c.l 0) 30 = num c := by unfold num; omega
  generalize num c = N at *
  obtain ⟨s, l, v, n, a⟩ := c
  have hB := Lib.hid (below1 w (.cells (cdA5 ⟨s, l, v, n, a⟩) 25))
  have C := CC.blk (Sp.Blk.new w 25 (cdA5 ⟨s, l, v, n, a⟩))
  have c1 := C.c1
  have HG := Lib.hid hg
  clear hg C
  go_enter Try.func34, Try.ntmps34
  go_wp2_with fail
  go_ret
  exact ⟨by rw [← HG.out]; rfl, hB.out⟩

set_option maxHeartbeats 1000000 in
theorem liv_any (c : Cd) (w : World) : Calls Try.prog 35 #[.agg (cdA5 c)] w fun e w' => e = .returned (.int .i64 (liv c)) ∧ Below w.heap.size w w' := by
  have hg : min (max c.v 0) (num c) = liv c := by have := num_ge c; unfold liv; omega
  have RC := Lib.hid (fun X => rec_any c X)
  generalize liv c = V at *
  generalize num c = N at *
  obtain ⟨s, l, v, n, a⟩ := c
  obtain ⟨W, hW⟩ : ∃ W, w.alloc (.cells (cdA5 ⟨s, l, v, n, a⟩) 25) = W := ⟨_, rfl⟩
  have HB := Lib.hid (show Below w.heap.size w W by rw [← hW]; exact below1 _ _)
  have BA : Sp.Blk W w.heap.size 25 (cdA5 ⟨s, l, v, n, a⟩) := by rw [← hW]; exact Sp.Blk.new w 25 (cdA5 ⟨s, l, v, n, a⟩)
  have HG := Lib.hid hg
  clear hg
  have a0 : ∀ jj : In (fun X => Below W.heap.size W X), Sp.Blk jj.W w.heap.size 25 (cdA5 ⟨s, l, v, n, a⟩) := fun jj => BA.later jj.h
  have a1 := fun jj => (CC.blk (a0 jj)).c0
  have a2 := fun jj => (CC.blk (a0 jj)).c1
  have a3 := fun jj => (CC.blk (a0 jj)).c2
  have a4 := fun jj => (CC.blk (a0 jj)).c3
  have a5 := fun jj => (CC.blk (a0 jj)).c4
  clear a0 BA
  go_enter Try.func35, Try.ntmps35
  go_upto_region 1 with fail
  have I : Below W.heap.size W { W with drawn := W.drawn + 1 } := (Below.refl _ _).drew
  have hne : Nonempty (In (fun X => Below W.heap.size W X)) := ⟨⟨_, I⟩⟩
  refine region_class (fun X => Below W.heap.size W X) (by kernel_rfl) (by kernel_rfl) I ?_
  repeat (go_big_quiet_step (first
    | (go_at_call 34; with_reducible exact class_call _ (fun hi => (RC.out _).mono fun _ _ ⟨he, hb⟩ => ⟨he, hi.trans (hb.mono hi.size)⟩))))
  refine wpQuiet_nil ?_
  rintro _ ⟨jj, rfl⟩
  have HX := Lib.hid (HB.out.trans (jj.h.mono HB.out.size))
  generalize jj.W = X at *
  clear jj hne I
  go_wp2_with fail
  go_ret
  exact ⟨by rw [← HG.out]; rfl, HX.out⟩
end Go.Proofs.Ytgepkomomjmmhaa.Vj
