/- Contracts of slices.Clone, and of table's copied, opened and New: new lists of the call's own; no memory that was there is changed. -/
import Derived.Test.YtpgbbbgblgkokaaTbD
namespace Go.Proofs.Ytpgbbbgblgkokaa
open Go.RowKit Go.Lib
set_option linter.unusedVariables false

theorem run_eqlIn_slice {P : Program} (w : World) (d : Nat) (t e : TypeId) (A : Option Addr) (n c : Nat) (h : P.underlying t = some (.slice e)) : (Op.equalIn (d + 1) t (.slice A n c) (.slice none 0 0)).run P w = .ok A.isNone w := by
  cases A <;> simp [Op.equalIn, run_underlying h]
theorem run_eql_slice {P : Program} (w : World) (t e : TypeId) (A : Option Addr) (n c : Nat) (h : P.underlying t = some (.slice e)) : (binOp .eql t (.slice A n c) (.slice none 0 0)).run P w = .ok (.bool A.isNone) w := by
  simp only [binOp]
  simp [show Op.equal t (.slice A n c) (.slice none 0 0) = Op.equalIn (9999 + 1) t (.slice A n c) (.slice none 0 0) from rfl, run_eqlIn_slice w 9999 t e A n c h]

/-- nil, or a list that is not empty. -/
def Full (A : Option Addr) (m : Nat) : Prop := (A = none ∧ m = 0) ∨ 0 < m
/-- What a cloned list is. -/
def ClP (κ : IntKind) (e : TypeId) (m : Nat) (l : List Int) (w : World) (en : Ending) (w' : World) : Prop :=
  ∃ A p, en = .returned (.slice A m p) ∧ w'.ownsRow w.heap.size e 1 (.slice A m p) m (iv κ l) ∧ Below w.heap.size w w'
theorem sl_cells {κ : IntKind} {W : World} {b off m : Nat} {l : List Int} (h : Sl κ W (some ⟨b, off, none⟩) m l) : ∀ j u, (iv κ l)[j]? = some u → W.cell? ((⟨b, off, none⟩ : Addr).add j) = some u := by
  intro j u hu
  have hj : j < l.length := by
    have := (List.getElem?_eq_some_iff.1 hu).1
    rwa [iv_len] at this
  rw [iv_at κ hj] at hu
  injection hu with hu
  subst hu
  have hl := h.len
  obtain ⟨b', o', e, _, hc⟩ := h.cells (by omega)
  injection e with e
  injection e with e1 e2
  subst e1 e2
  rw [Addr.add_mid]
  exact hc j (by omega)
theorem clone_run {κ : IntKind} {e T : TypeId} {z : Value} (hT : Try.prog.underlying T = some (.slice e)) (hI : (Try.prog.info? e).map (fun i => (i.zero, i.size, i.bytes)) = some (some z, 1, 8)) (hz : z.cells.size = 1)
    {W : World} {b off m p : Nat} {l : List Int} (h : Sl κ W (some ⟨b, off, none⟩) m l) (h0 : 0 < m) (hm : m ≤ 1000) :
    ∃ g p' W5, (∀ ty, (Builtin.append_ #[T, T] ty #[.slice (some ⟨W.heap.size, 0, none⟩) 0 0, .slice (some ⟨b, off, none⟩) m p]).run Try.prog (W.alloc (.cells #[] e)) = .ok (.slice (some ⟨g, 0, none⟩) m p') W5) ∧
      W5.ownsRow W.heap.size e 1 (.slice (some ⟨g, 0, none⟩) m p') m (iv κ l) ∧ Below W.heap.size W W5 := by
  obtain ⟨i0, hi0, hz0, hz1, hz2⟩ := info_of hI
  have key : ∀ ty, _ := fun ty => run_append_own_at (P := Try.prog) (W.alloc (.cells #[] e)) W.heap.size T ty e i0 z 1 8 hT hi0 hz0 hz1 hz2 hz (by omega) (.slice (some ⟨W.heap.size, 0, none⟩) 0 0) 0 []
    (World.ownsRow_lit W #[] 0 (Nat.le_refl _) (Nat.zero_le _) rfl) ⟨b, off, none⟩ m p (iv κ l) (by rw [iv_len, h.len, Nat.mul_one]) (sl_cells (h.later (below1 _ _))) (iv_one κ l) (by unfold maxLen; omega) (by omega) (by simp)
  obtain ⟨v5, W5, hrun, own5, g5, _, hat5⟩ := key T
  rw [Nat.zero_add, List.nil_append] at own5
  obtain ⟨g, p', rfl⟩ : ∃ g p', v5 = .slice (some ⟨g, 0, none⟩) m p' := by
    rcases own5.2 with ⟨_, h0⟩ | ⟨g, cap, cur, rfl, _⟩
    · omega
    · exact ⟨_, _, rfl⟩
  exact ⟨g, p', W5, fun ty => hrun, own5, (below1 W _).grown g5 (by simp) (fun j hj => by injection hj with hj; subst hj; exact Nat.le_refl _)⟩

theorem clone_i (A : Option Addr) (m p : Nat) (l : List Int) (w : World) (h : Sl .i64 w A m l) (hf : Full A m) (hm : m ≤ 1000) :
    Calls Try.prog 54 #[.slice A m p] w (ClP .i64 3 m l w) := by
  by_cases hz : m = 0
  · subst hz
    obtain rfl : A = none := by rcases hf with ⟨h, _⟩ | h; exact h; omega
    have h1 := List.length_eq_zero_iff.1 h.len.symm
    subst h1
    have hnil := run_eql_slice (P := Try.prog) w 25 _ none 0 p Try.underlying25
    go_enter Try.func54, Try.ntmps54
    go_wp2_with fail
    go_ret
    exact ⟨none, 0, rfl, World.ownsRow_nil _ _ _ _, Below.refl _ _⟩
  obtain ⟨b, off, rfl, hb, hc⟩ := h.cells (by omega)
  obtain ⟨g, p', W5, R, own, hB⟩ := clone_run (T := 25) Try.underlying25 infoI rfl h (p := p) (by omega) hm
  have HR := Lib.hid R
  clear R hc hz
  have hnil := run_eql_slice (P := Try.prog) w 25 _ (some ⟨b, off, none⟩) m p Try.underlying25
  go_enter Try.func54, Try.ntmps54
  go_wp2_with (at_builtin; refine list_append_run rfl (.tmp 5) (.tmp 6) 25 rfl _ _ rfl rfl HR.out ?_)
  go_ret
  exact ⟨_, p', rfl, own, hB⟩

theorem clone_u (A : Option Addr) (m p : Nat) (l : List Int) (w : World) (h : Sl .u64 w A m l) (hf : Full A m) (hm : m ≤ 1000) :
    Calls Try.prog 55 #[.slice A m p] w (ClP .u64 23 m l w) := by
  by_cases hz : m = 0
  · subst hz
    obtain rfl : A = none := by rcases hf with ⟨h, _⟩ | h; exact h; omega
    have h1 := List.length_eq_zero_iff.1 h.len.symm
    subst h1
    have hnil := run_eql_slice (P := Try.prog) w 26 _ none 0 p Try.underlying26
    go_enter Try.func55, Try.ntmps55
    go_wp2_with fail
    go_ret
    exact ⟨none, 0, rfl, World.ownsRow_nil _ _ _ _, Below.refl _ _⟩
  obtain ⟨b, off, rfl, hb, hc⟩ := h.cells (by omega)
  obtain ⟨g, p', W5, R, own, hB⟩ := clone_run (T := 26) Try.underlying26 infoU rfl h (p := p) (by omega) hm
  have HR := Lib.hid R
  clear R hc hz
  have hnil := run_eql_slice (P := Try.prog) w 26 _ (some ⟨b, off, none⟩) m p Try.underlying26
  go_enter Try.func55, Try.ntmps55
  go_wp2_with (at_builtin; refine list_append_run rfl (.tmp 5) (.tmp 6) 26 rfl _ _ rfl rfl HR.out ?_)
  go_ret
  exact ⟨_, p', rfl, own, hB⟩
end Go.Proofs.Ytpgbbbgblgkokaa
