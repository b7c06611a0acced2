/- The document's Gain, Cost and Better, and the statements' own Ref of one candidate. -/
import Derived.Test.YtgepkomomjmmhaaViR
import Derived.Test.YtgepkomomjmmhaaClass
import Derived.Lib.MinMax
import Derived.Lib.Hide
namespace Go.Proofs.Ytgepkomomjmmhaa.Vi
open Go.ChangeShapes Go.WideShapes Go.ChangeAt Go.RowKit Go.Lib Go.Joins Go.Deep
open Sp
set_option linter.unusedVariables false
set_option maxRecDepth 100000

set_option maxHeartbeats 1000000 in
theorem gain_any (c : Cd) (w : World) (h : COk c) : Calls Try.prog 21 #[.agg (cdA5 c)] w fun e w' => e = .returned (.int .u64 (gain c)) ∧ Below w.heap.size w w' := by
  have hg : IntKind.u64.wrap (gain c) = gain c := IntWalk.u64_in _ ⟨gain_ge h, by have := gain_le h; omega⟩
  obtain ⟨s, l, v, n, a⟩ := c
  have hB := Lib.hid (below1 w (.cells (cdA5 ⟨s, l, v, n, a⟩) 28))
  have C := CC.blk (Sp.Blk.new w 28 (cdA5 ⟨s, l, v, n, a⟩))
  have c1 := C.c1
  have c2 := C.c2
  have c4 := C.c4
  go_enter Try.func21, Try.ntmps21
  go_wp2_with fail
  rw [show IntKind.u64.wrap ((max 0 (min l 30) - max 0 (min v (max 0 (min l 30)))) * min a 1099511627776) = gain ⟨s, l, v, n, a⟩ from hg]
  go_ret
  exact ⟨rfl, hB.out⟩

set_option maxHeartbeats 1000000 in
theorem cost_any (c : Cd) (w : World) : Calls Try.prog 22 #[.agg (cdA5 c)] w fun e w' => e = .returned (.int .u64 (cost c)) ∧ Below w.heap.size w w' := by
  have h1 := num_ge c
  have h2 := num_le c
  have h3 := liv_ge c
  have h4 := liv_le c
  by_cases hz : num c + liv c = 0
  · have hc : cost c = 1 := by unfold cost; rw [if_pos hz]
    have hn : (max 0 (min c.l 30) + max 0 (min c.v (max 0 (min c.l 30))) == 0) = true := by rw [show max 0 (min c.l 30) + max 0 (min c.v (max 0 (min c.l 30))) = 0 from hz]; rfl
    rw [hc]
    clear hc hz h1 h2 h3 h4
    obtain ⟨s, l, v, n, a⟩ := c
    have hB := Lib.hid (below1 w (.cells (cdA5 ⟨s, l, v, n, a⟩) 28))
    have C := CC.blk (Sp.Blk.new w 28 (cdA5 ⟨s, l, v, n, a⟩))
    have c1 := C.c1
    have c2 := C.c2
    have c4 := C.c4
    go_enter Try.func22, Try.ntmps22
    go_wp2_with fail
    go_ret
    exact ⟨rfl, hB.out⟩
  · have hc : cost c = num c + liv c := by unfold cost; rw [if_neg hz]
    have hw : IntKind.u64.wrap (max 0 (min c.l 30) + max 0 (min c.v (max 0 (min c.l 30)))) = max 0 (min c.l 30) + max 0 (min c.v (max 0 (min c.l 30))) := by
      have : max 0 (min c.l 30) + max 0 (min c.v (max 0 (min c.l 30))) = num c + liv c := rfl
      rw [this]
      exact IntWalk.u64_in _ ⟨by omega, by omega⟩
    have hn : (max 0 (min c.l 30) + max 0 (min c.v (max 0 (min c.l 30))) == 0) = false := by
      rw [show max 0 (min c.l 30) + max 0 (min c.v (max 0 (min c.l 30))) = num c + liv c from rfl]
      simp [hz]
    rw [hc]
    clear hc hz h1 h2 h3 h4
    obtain ⟨s, l, v, n, a⟩ := c
    have hB := Lib.hid (below1 w (.cells (cdA5 ⟨s, l, v, n, a⟩) 28))
    have C := CC.blk (Sp.Blk.new w 28 (cdA5 ⟨s, l, v, n, a⟩))
    have c1 := C.c1
    have c2 := C.c2
    have c4 := C.c4
    go_enter Try.func22, Try.ntmps22
    go_wp2_with fail
    go_ret
    exact ⟨rfl, hB.out⟩

theorem ret_bool {a b : Bool} (h : a = b) : Ending.returned (.bool a) = Ending.returned (.bool b) := by rw [h]
set_option maxHeartbeats 2000000 in
/-- The document's Better. -/
theorem rbetter_any (a b : Cd) (w : World) (ha : COk a) (hb : COk b) : Calls Try.prog 11 #[.agg (cdA5 a), .agg (cdA5 b)] w fun e w' => e = .returned (.bool (better a b)) ∧ Below w.heap.size w w' := by
  obtain ⟨W, hW⟩ : ∃ W, (w.alloc (.cells (cdA5 a) 28)).alloc (.cells (cdA5 b) 28) = W := ⟨_, rfl⟩
  have HB := Lib.hid (show Below w.heap.size w W by rw [← hW]; exact ((Below.refl _ _).alloc (Nat.le_refl _) _).alloc (by simp) _)
  have BA : Sp.Blk W w.heap.size 28 (cdA5 a) := by rw [← hW]; exact (Sp.Blk.new w 28 (cdA5 a)).later (below1 _ _)
  have BB : Sp.Blk W (w.heap.size + 1) 28 (cdA5 b) := by rw [← hW]; exact Sp.Blk.at_ _ _ _ (by simp)
  have GA := Lib.hid (fun X => gain_any a X ha)
  have GB := Lib.hid (fun X => gain_any b X hb)
  have KA := Lib.hid (fun X => cost_any a X)
  have KB := Lib.hid (fun X => cost_any b X)
  have w1 : IntKind.u64.wrap (gain a * cost b) = gain a * cost b := IntWalk.u64_in _ ⟨prod_ge ha, by have := prod_lt (b := b) ha; omega⟩
  have w2 : IntKind.u64.wrap (gain b * cost a) = gain b * cost a := IntWalk.u64_in _ ⟨prod_ge hb, by have := prod_lt (b := a) hb; omega⟩
  have hR := Lib.hid (show decide (gain b * cost a < gain a * cost b) = better a b from rfl)
  obtain ⟨ga, ega⟩ : ∃ x, gain a = x := ⟨_, rfl⟩
  obtain ⟨gb, egb⟩ : ∃ x, gain b = x := ⟨_, rfl⟩
  obtain ⟨ka, eka⟩ : ∃ x, cost a = x := ⟨_, rfl⟩
  obtain ⟨kb, ekb⟩ : ∃ x, cost b = x := ⟨_, rfl⟩
  rw [ega] at GA
  rw [egb] at GB
  rw [eka] at KA
  rw [ekb] at KB
  rw [ega, ekb] at w1
  rw [egb, eka] at w2
  rw [ega, egb, eka, ekb] at hR
  generalize better a b = R at *
  clear ega egb eka ekb
  have a0 : ∀ jj : In (fun X => Below W.heap.size W X), Sp.Blk jj.W w.heap.size 28 (cdA5 a) := fun jj => BA.later jj.h
  have b0 : ∀ jj : In (fun X => Below W.heap.size W X), Sp.Blk jj.W (w.heap.size + 1) 28 (cdA5 b) := fun jj => BB.later jj.h
  have a1 := fun jj => (CC.blk (a0 jj)).c0
  have a2 := fun jj => (CC.blk (a0 jj)).c1
  have a3 := fun jj => (CC.blk (a0 jj)).c2
  have a4 := fun jj => (CC.blk (a0 jj)).c3
  have a5 := fun jj => (CC.blk (a0 jj)).c4
  have b1 := fun jj => (CC.blk (b0 jj)).c0
  have b2 := fun jj => (CC.blk (b0 jj)).c1
  have b3 := fun jj => (CC.blk (b0 jj)).c2
  have b4 := fun jj => (CC.blk (b0 jj)).c3
  have b5 := fun jj => (CC.blk (b0 jj)).c4
  clear a0 b0 BA BB
  go_enter Try.func11, Try.ntmps11
  go_upto_region 1 with fail
  have I : Below W.heap.size W { W with drawn := W.drawn + 1 } := (Below.refl _ _).drew
  have hne : Nonempty (In (fun X => Below W.heap.size W X)) := ⟨⟨_, I⟩⟩
  refine region_class (fun X => Below W.heap.size W X) (by kernel_rfl) (by kernel_rfl) I ?_
  repeat (go_big_quiet_step (first
    | (go_at_call 21; with_reducible exact class_call _ (fun hi => (GA.out _).mono fun _ _ ⟨he, hb⟩ => ⟨he, hi.trans (hb.mono hi.size)⟩))
    | (go_at_call 21; with_reducible exact class_call _ (fun hi => (GB.out _).mono fun _ _ ⟨he, hb⟩ => ⟨he, hi.trans (hb.mono hi.size)⟩))
    | (go_at_call 22; with_reducible exact class_call _ (fun hi => (KA.out _).mono fun _ _ ⟨he, hb⟩ => ⟨he, hi.trans (hb.mono hi.size)⟩))
    | (go_at_call 22; with_reducible exact class_call _ (fun hi => (KB.out _).mono fun _ _ ⟨he, hb⟩ => ⟨he, hi.trans (hb.mono hi.size)⟩))))
  refine wpQuiet_nil ?_
  rintro _ ⟨jj, rfl⟩
  have HX := Lib.hid (HB.out.trans (jj.h.mono HB.out.size))
  generalize jj.W = X at *
  clear jj hne I
  go_wp2_with fail
  go_ret
  exact ⟨ret_bool hR.out, HX.out⟩
end Go.Proofs.Ytgepkomomjmmhaa.Vi
