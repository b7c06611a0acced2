/- The program's sort of places by insertion. -/
import Derived.Test.YtgepkomomjmmhaaVjC
import Derived.Test.YtgepkomomjmmhaaVjP
import Derived.Test.YtgepkomomjmmhaaViC
namespace Go.Proofs.Ytgepkomomjmmhaa.Vj
open Go.ChangeShapes Go.WideShapes Go.ChangeAt Go.RowKit Go.Lib Go.Joins Go.Deep
open Sp Vi
set_option linter.unusedVariables false
set_option maxRecDepth 100000

set_option maxHeartbeats 2000000 in
/-- The closure that the sort asks. -/
theorem ordc_p (A : Option Addr) (n p : Nat) (L : List Cd) (lb i j : Nat) (x y : Cd) (w : World) (hC : CR w A n L) (hb : w.cell? ⟨lb, 0, none⟩ = some (.slice A n p)) (hin : ∀ x ∈ L, CIn x) (hx : L[i]? = some x) (hy : L[j]? = some y) :
    Calls Try.prog 27 #[.int .i64 (i : Nat), .int .i64 (j : Nat), .pointer (some ⟨lb, 0, none⟩)] w fun e w' => e = .returned (.int .i64 (cmpc y x)) ∧ Below w.heap.size w w' := by
  have hi : i < n := by rw [hC.len]; exact (List.getElem?_eq_some_iff.1 hx).1
  have hj : j < n := by rw [hC.len]; exact (List.getElem?_eq_some_iff.1 hy).1
  have hi2 : (i : Int) < (n : Int) := by omega
  have hj2 : (j : Int) < (n : Int) := by omega
  obtain ⟨g, o, rfl, hc⟩ := hC.rc (by omega)
  have PC := Lib.hid (fun X => compare_p y x X (hin y (List.mem_of_getElem? hy)) (hin x (List.mem_of_getElem? hx)))
  generalize cmpc y x = R at *
  have x0 : ∀ jj : In (fun X => Below w.heap.size w X), CC jj.W g (o + i * 5) x := fun jj => (hc i x hx).later jj.h
  have y0 : ∀ jj : In (fun X => Below w.heap.size w X), CC jj.W g (o + j * 5) y := fun jj => (hc j y hy).later jj.h
  have x1 := fun jj => (x0 jj).c0
  have x2 := fun jj => (x0 jj).c1
  have x3 := fun jj => (x0 jj).c2
  have x4 := fun jj => (x0 jj).c3
  have x5 := fun jj => (x0 jj).c4
  have y1 := fun jj => (y0 jj).c0
  have y2 := fun jj => (y0 jj).c1
  have y3 := fun jj => (y0 jj).c2
  have y4 := fun jj => (y0 jj).c3
  have y5 := fun jj => (y0 jj).c4
  have l0 : ∀ jj : In (fun X => Below w.heap.size w X), jj.W.cell? ⟨lb, 0, none⟩ = some (.slice (some ⟨g, o, none⟩) n p) := fun jj => (jj.h.cell (World.block_lt_of_cell? _ _ hb)).trans hb
  clear x0 y0 hc hx hy hin hC hb
  go_enter Try.func27, Try.ntmps27
  go_upto_region 1 with fail
  have I : Below w.heap.size w { w with drawn := w.drawn + 1 } := (Below.refl _ _).drew
  have hne : Nonempty (In (fun X => Below w.heap.size w X)) := ⟨⟨_, I⟩⟩
  refine region_class (fun X => Below w.heap.size w X) (by kernel_rfl) (by kernel_rfl) I ?_
  repeat (go_big_quiet_step (first
    | (go_at_call 20; with_reducible exact class_call _ (fun hi => (PC.out _).mono fun _ _ ⟨he, hb⟩ => ⟨he, hi.trans (hb.mono hi.size)⟩))))
  refine wpQuiet_nil ?_
  rintro _ ⟨jj, rfl⟩
  have HX := Lib.hid jj.h
  generalize jj.W = X at *
  clear jj hne I
  go_wp2_with fail
  go_ret
  exact ⟨rfl, HX.out⟩
end Go.Proofs.Ytgepkomomjmmhaa.Vj
