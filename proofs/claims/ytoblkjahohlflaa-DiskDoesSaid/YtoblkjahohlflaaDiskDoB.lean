/- Towards lodgerlaw05.Do: the Op's second cell, a crash of lodgerref05's disk with an argument's list, the last thing dropped. -/
import Derived.Test.YtoblkjahohlflaaDiskDo
namespace Go.Proofs.Ytoblkjahohlflaa
open Go.RowKit Go.MapKept Go.Lib
set_option linter.unusedVariables false

theorem DoC.box1 {i5 i11 : Nat} {W0 : World} {L : List Item} {j k n d r bx : Nat} {s s' : St} {t : TypeId} {cs : Array Value} {listed : Array Bool} {a : Act} {W : World} {I : Int} (h : DoC i5 i11 W0 L j k n d r bx s s' t cs listed a W) (hI : cs[1]? = some (.int .i64 I)) : W.cell? ⟨bx, 1, none⟩ = some (.int .i64 I) :=
  (h.blk.cell 1).trans hI

section
variable {W w : World} {items : List Item}
theorem rcrash_arg_s {k r : Nat} {s : St} (h : Sep W w items) (hk : items[k]? = some (refI r s)) (A : Option Addr) (m c : Nat) (hm : m ≤ maxLen) (keep : Nat → Bool) (torn pos : Int) (hc : CellsIn W A m (fun j => .bool (keep j))) (hkf : ∀ j, m ≤ j → keep j = false) (hpl : s.pend.length < 1048576) :
    Calls Try.prog 12 #[.pointer (some ⟨r, 0, none⟩), .slice A m c, .int .i64 torn, .int .i64 pos] w fun e w' => e = .returned (.tuple #[]) ∧ Sep W w' (items.set k (refI r (s.crash keep torn (clampN pos)))) :=
  rcrash_s h hk A m c hm keep torn pos (fun G _ hN => keep_old h.below hN hc hkf) hpl
theorem Sep.init {it : Item} (h : Sep W w (items ++ [it])) : Sep W w items := by
  obtain ⟨hW, Gs, hl, hh, hd, hN⟩ := h
  have hl' : Gs.length = items.length + 1 := by simpa using hl
  have ht : ∀ (i : Nat) (G : Nat → Prop), (Gs.take items.length)[i]? = some G → i < items.length ∧ Gs[i]? = some G := fun i G hi => by
    rw [List.getElem?_take] at hi
    split at hi
    · exact ⟨by assumption, hi⟩
    · simp at hi
  refine ⟨hW, Gs.take items.length, by simp [hl'], fun i it' G hi hG => ?_, fun i j G H hij hG hH => hd i j G H hij (ht i G hG).2 (ht j H hH).2, fun i G hG => hN i G (ht i G hG).2⟩
  exact hh i it' G (by rw [List.getElem?_append_left (ht i G hG).1]; exact hi) (ht i G hG).2
end

end Go.Proofs.Ytoblkjahohlflaa
