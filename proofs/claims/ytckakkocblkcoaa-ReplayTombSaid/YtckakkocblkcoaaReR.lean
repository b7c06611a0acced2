/- Rows that are read appended to rows of one's own. -/
import Derived.Test.YtckakkocblkcoaaReQ
namespace Go.Proofs.Ytckakkocblkcoaa.Re
open Go.RowKit Go.Lib
open Sp
set_option linter.unusedVariables false
set_option maxRecDepth 100000

theorem run_append_zero {P : Program} {w : World} (base : Nat) (t ty e : TypeId) (i : TypeInfo) (size : Nat) (ht : P.underlying t = some (.slice e)) (hi : P.info? e = some i)
    (v : Value) (n : Nat) (xs : List Value) (hown : w.ownsRow base e size v n xs) (c : Nat) :
    (Builtin.append_ #[t, t] ty #[v, .slice none 0 c]).run P w = .ok v w := by
  rcases hown.2 with ⟨rfl, rfl⟩ | ⟨g, cap, cur, rfl, _, _, hnc, _⟩
  · simp [Builtin.append_, run_underlying ht, sizeOf, typeInfo, hi, Builtin.lenOf, Builtin.firstCells]
  · simp [Builtin.append_, run_underlying ht, sizeOf, typeInfo, hi, Builtin.lenOf, Builtin.firstCells, hnc, storeCells]
theorem set_same {α : Type} {l : List α} {k : Nat} {x : α} (h : l[k]? = some x) : l.set k x = l := by
  apply List.ext_getElem?
  intro i
  rw [List.getElem?_set]
  split
  · rename_i e
    subst e
    rw [if_pos (List.getElem?_eq_some_iff.1 h).1, h]
  · rfl
theorem RR.src {w : World} {g o n : Nat} {L : List Rec} (h : RR w (some ⟨g, o, none⟩) n L) : ∀ j u, (L.flatMap rcC)[j]? = some u → w.cell? ((⟨g, o, none⟩ : Addr).add j) = some u := fun j u hu => by
  have hlt := (List.getElem?_eq_some_iff.1 hu).1
  rw [flat_len rcC 7 rcC_len] at hlt
  have h0 : 0 < n := by rw [h.len]; omega
  obtain ⟨g', o', e, hc⟩ := h.c h0
  injection e with e
  injection e with e1 e2 _
  subst e1 e2
  have hj : j / 7 < L.length := by omega
  have h1 := hc (j / 7) (j % 7) _ (List.getElem?_eq_getElem hj) (by omega)
  have h2 := flat_get rcC 7 rcC_len L (j / 7) _ (j % 7) (List.getElem?_eq_getElem hj) (by omega)
  rw [show j / 7 * 7 + j % 7 = j by omega] at h2
  rw [show (⟨g, o, none⟩ : Addr).add j = ⟨g, o + j / 7 * 7 + j % 7, none⟩ by unfold Addr.add; by_cases h : j = 0 <;> simp [h] <;> omega]
  rw [h1, ← h2]
  exact hu
/-- 'x = append(x, l...)', l a row of records that can be read. -/
theorem wp_append_r {ops : Array Oper} {rest : List Oper} {o : Oper} {a : Act} {W w : World} {items : List Sp.Item} {Q : Exit → Act → World → Prop} {n p0 g0 : Nat} {xs : List Value} {L : List Rec} (hgd : o.guard = none) (sx xx : Operand)
    (ho : o.op = .call { callee := .builtin .append, args := #[sx, xx], argTypes := #[22, 22] }) (hs : a.eval sx = .slice (some ⟨g0, 0, none⟩) n p0) (A : Option Addr) (m c : Nat) (hx : a.eval xx = .slice A m c) (h1 : Sp.Sep W w items) (k : Nat) (hk : items[k]? = some (rowS 42 7 (.slice (some ⟨g0, 0, none⟩) n p0) n xs)) (hr : RR w A m L) (hn : n + m < 1000)
    (h : ∀ g' p' w', Sp.Sep W w' (items.set k (rowS 42 7 (.slice (some ⟨g', 0, none⟩) (n + m) p') (n + m) (xs ++ L.flatMap rcC))) → wpList Try.prog ops Q rest (a.put o.dst (.slice (some ⟨g', 0, none⟩) (n + m) p')) w') : wpList Try.prog ops Q (o :: rest) a w := by
  cases A with
  | some ad =>
    by_cases h0 : 0 < m
    · obtain ⟨g, ofs, e, _⟩ := hr.c h0
      injection e with e
      subst e
      exact wp_append_l prec_infos rfl (by decide) (by decide) Try.underlying22 hgd sx xx ho hs _ m c hx h1 k hk hn (by rw [flat_len rcC 7 rcC_len, ← hr.len]) hr.src (flat_one L) h
    · obtain rfl : m = 0 := by omega
      have hL : L = [] := List.eq_nil_of_length_eq_zero hr.len.symm
      subst hL
      exact wp_append_l prec_infos rfl (by decide) (by decide) Try.underlying22 hgd sx xx ho hs ad 0 c hx h1 k hk hn rfl (by intro j u hu; simp at hu) (by intro u hu; simp at hu) h
  | none =>
    have hm : m = 0 := by
      rcases Nat.eq_zero_or_pos m with h0 | h0
      · exact h0
      · obtain ⟨g, ofs, e, _⟩ := hr.c h0
        cases e
    subst hm
    have hL : L = [] := List.eq_nil_of_length_eq_zero hr.len.symm
    subst hL
    obtain ⟨i0, hi0, hz0, hz1, hz2⟩ := info_parts prec_infos
    obtain ⟨G, ⟨hrow, hG⟩, _, _, hstep⟩ := h1.at_ k hk
    have hrun := run_append_zero (P := Try.prog) (w := w) 0 22 o.type 42 i0 7 Try.underlying22 hi0 _ n xs hrow c
    have h2 := h g0 p0 w (by
      rw [Nat.add_zero, List.flatMap_nil, List.append_nil, set_same hk]
      exact h1)
    refine wpList_plain hgd fun K hK => ?_
    unfold Oper.wp execOp
    simp only [ho, resolve, invoke, builtin, Sem.run_bind, Sem.run_pure, Result.andThen_ok, List.map_toArray, List.map_cons, List.map_nil, hs, hx, hrun]
    exact hK _ _ h2
end Go.Proofs.Ytckakkocblkcoaa.Re
