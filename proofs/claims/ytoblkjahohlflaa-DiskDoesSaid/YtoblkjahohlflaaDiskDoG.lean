/- Towards the law DiskDoes: some of several things, and a crash of lodgerref05's disk with a row of the law's own. -/
import Derived.Test.YtoblkjahohlflaaDiskDoF
namespace Go.Proofs.Ytoblkjahohlflaa
open Go.RowKit Go.MapKept Go.Lib
set_option linter.unusedVariables false

section
variable {W w : World} {items : List Item}
/-- Some of the things, in whatever order. -/
theorem Sep.some (h : Sep W w items) (its : List Item) (f : Nat → Nat) (hf : ∀ i it, its[i]? = some it → items[f i]? = some it) (hi : ∀ i j, i < its.length → j < its.length → f i = f j → i = j) : Sep W w its := by
  obtain ⟨hW, Gs, hl, hh, hd, hN⟩ := h
  have hg : ∀ (i : Nat) (G : Nat → Prop), ((List.range its.length).map fun i => Gs.getD (f i) (fun _ => False))[i]? = Option.some G → i < its.length ∧ Gs[f i]? = Option.some G := fun i G hG => by
    by_cases lt : i < its.length
    · refine ⟨lt, ?_⟩
      have a1 := hf i its[i] (List.getElem?_eq_getElem lt)
      have a2 : f i < Gs.length := by rw [hl]; exact (List.getElem?_eq_some_iff.1 a1).1
      simp [lt, a2] at hG
      rw [← hG]
      exact List.getElem?_eq_getElem a2
    · simp [lt] at hG
  refine ⟨hW, _, by simp, fun i it G h1 h2 => hh (f i) it G (hf i it h1) (hg i G h2).2, fun i j G H hij h1 h2 => hd (f i) (f j) G H (fun e => hij (hi i j (hg i G h1).1 (hg j H h2).1 e)) (hg i G h1).2 (hg j H h2).2, fun i G h1 => hN (f i) G (hg i G h1).2⟩

/-- A new pair of copies in the old pair's place. -/
theorem Sep.pair {a b c q c2 q2 : Item} (h : Sep W w [a, b, c, q, c2, q2]) : Sep W w [a, b, c2, q2] := by
  refine h.some _ (fun i => if i < 2 then i else i + 2) ?_ ?_
  · intro i it hi
    match i with
    | 0 => exact hi
    | 1 => exact hi
    | 2 => exact hi
    | 3 => exact hi
    | i + 4 => simp at hi
  · intro i j _ _ e
    split at e <;> split at e <;> omega

/-- A crash whose list of bools is a row of the law's own. -/
theorem rcrash_row_s {k r : Nat} {s : St} (h : Sep W w items) (hk : items[k]? = some (refI r s)) (j : Nat) (hjk : j ≠ k) {t : TypeId} {A : Option Addr} {m c : Nat} (ks : List Bool) (hj : items[j]? = some (rowI t (.slice A m c) m (ks.map Value.bool))) (hm : m ≤ maxLen) (torn pos : Int) (hpl : s.pend.length < 1048576) :
    Calls Try.prog 12 #[.pointer (some ⟨r, 0, none⟩), .slice A m c, .int .i64 torn, .int .i64 pos] w fun e w' => e = .returned (.tuple #[]) ∧ Sep W w' (items.set k (refI r (s.crash (fun i => ks.getD i false) torn (clampN pos)))) := by
  obtain ⟨G, D, _, hoth, hstep⟩ := h.at_ k hk
  obtain ⟨H, ⟨hrow, hH⟩, hdis⟩ := hoth j _ hj hjk
  have hlen : ks.length = m := by have := hrow.1; simpa using this
  have hkeep : KeepIs w G A m (fun i => ks.getD i false) := by
    refine ⟨fun h0 => ?_, fun i hi => by simp [List.getD, List.getElem?_eq_none (show ks.length ≤ i by omega)]⟩
    rcases hrow.2 with ⟨_, e⟩ | ⟨g, cap, cur, hv, _, hblk, _⟩
    · omega
    · have hA : A = some ⟨g, 0, none⟩ := by injection hv
      subst hA
      refine ⟨g, 0, rfl, hdis g ((hH g).2 rfl), fun i hi => ?_⟩
      have := hrow.cells (g := g) rfl i (.bool (ks.getD i false)) (by simp [List.getElem?_eq_getElem (show i < ks.length by omega)])
      rw [Addr.add_mid] at this
      exact this
  exact (rcrash_any D A m c hm _ torn pos hkeep hpl).mono fun e w' ⟨he, hF, ho⟩ => ⟨he, hstep w' G (refI r _) hF (Grew.refl _ _) ho⟩
end

end Go.Proofs.Ytoblkjahohlflaa
