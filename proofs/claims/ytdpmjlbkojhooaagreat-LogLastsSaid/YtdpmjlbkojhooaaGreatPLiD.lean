/- A part of the proofs of the statements about logs. -/
import Derived.Test.YtdpmjlbkojhooaaGreatPLiC
namespace Go.Proofs.YtdpmjlbkojhooaaGreat.Lg
open Go.RowKit Go.Lib
open Tb (Tab TIn Sl okP csT lastN nth Fresh)
open Dk (St Only Grew)
set_option linter.unusedVariables false
set_option maxRecDepth 100000
section
variable {w : World} {t : Tab} {A : Option Addr} {m p : Nat} {B : Option Addr} {k q : Nat} {C : Option Addr} {n r : Nat}
theorem tin_small (h : TIn w A m B k C n t.o t.l t.f) (hok : okP t) : m ≤ maxLen := by
  have h1 := h.a.len
  have h2 := Tb.ok_bd hok
  unfold maxLen
  omega
theorem len_fix (h : TIn w A m B k C n t.o t.l t.f) (hok : okP t) (x : Int) : Calls Tryz.prog 41 #[.agg #[.int .i64 t.sg, .int .i64 t.st, .slice A m p, .slice B k q, .slice C n r], .int .i64 x] w fun e w' => e = .returned (.int .i64 (Tb.lenT t x)) ∧ Below w.heap.size w w' :=
  Tb.len_is t.sg t.st A m p B k q C n r t.o t.l t.f x _ w h (tin_small h hok) hok.2.2.2.2.2.2.1 rfl
theorem room_fix (h : TIn w A m B k C n t.o t.l t.f) (hok : okP t) : Calls Tryz.prog 23 #[.agg #[.int .i64 t.sg, .int .i64 t.st, .slice A m p, .slice B k q, .slice C n r]] w fun e w' => e = .returned (.int .i64 (Tb.roomT t)) ∧ Below w.heap.size w w' :=
  Tb.room_is t.sg t.st A m p B k q C n r t.o t.l t.f _ w h hok rfl
theorem rfree_fix (h : TIn w A m B k C n t.o t.l t.f) (hok : okP t) : Calls Tryz.prog 42 #[.agg #[.int .i64 t.sg, .int .i64 t.st, .slice A m p, .slice B k q, .slice C n r]] w (Tb.LstP (Tb.freeT t) w) :=
  Tb.rfree_any t.sg t.st A m p B k q C n r t.o t.l t.f w h (tin_small h hok) (by have := hok.1; omega)
end
end Go.Proofs.YtdpmjlbkojhooaaGreat.Lg
