/- An append of candidates that can be read; a row's field that is written. -/
import Derived.Test.YtgepkomomjmmhaaViF
import Derived.Room.AppendZeros
namespace Go.Proofs.Ytgepkomomjmmhaa.Vi
open Go.ChangeShapes Go.WideShapes Go.ChangeAt Go.RowKit Go.Lib Go.Joins Go.Deep
open Sp
set_option linter.unusedVariables false
set_option maxRecDepth 100000

theorem flat_one (L : List Cd) : ∀ u ∈ L.flatMap cdC, u.oneCell' = true := fun u hu => by
  obtain ⟨x, _, h⟩ := List.mem_flatMap.1 hu
  exact cd_one x u h
theorem run_append_zero {P : Program} {w : World} (base : Nat) (t ty e : TypeId) (i : TypeInfo) (size : Nat) (ht : P.underlying t = some (.slice e)) (hi : P.info? e = some i)
    (v : Value) (n : Nat) (xs : List Value) (hown : w.ownsRow base e size v n xs) (c : Nat) :
    (Builtin.append_ #[t, t] ty #[v, .slice none 0 c]).run P w = .ok v w := by
  rcases hown.2 with ⟨rfl, rfl⟩ | ⟨g, cap, cur, rfl, _, _, hnc, _⟩
  · simp [Builtin.append_, run_underlying ht, sizeOf, typeInfo, hi, Builtin.lenOf, Builtin.firstCells]
  · simp [Builtin.append_, run_underlying ht, sizeOf, typeInfo, hi, Builtin.lenOf, Builtin.firstCells, hnc, storeCells]
theorem set_same {α : Type} {l : List α} {k : Nat} {x : α} (h : l[k]? = some x) : l.set k x = l := by
  apply List.ext_getElem?
  intro i
  rw [List.getElem?_set]
  split
  · rename_i e
    subst e
    rw [if_pos (List.getElem?_eq_some_iff.1 h).1, h]
  · rfl
/-- 'x = append(x, ys...)', structs, x not nil. -/
theorem wp_append_l {ops : Array Oper} {rest : List Oper} {o : Oper} {a : Act} {W w : World} {items : List Sp.Item} {Q : Exit → Act → World → Prop} {n p0 g0 : Nat} {xs cs : List Value} {e t : TypeId} {sz bytes : Nat} {z : Value} (hinfo : (Try.prog.info? e).map (fun i => (i.zero, i.size, i.bytes)) = some (some z, sz, bytes)) (hzs : z.cells.size = sz) (hsz : 0 < sz) (hby : bytes ≤ 1000)
    (ht : Try.prog.underlying t = some (.slice e)) (hgd : o.guard = none) (sx xx : Operand)
    (ho : o.op = .call { callee := .builtin .append, args := #[sx, xx], argTypes := #[t, t] }) (hs : a.eval sx = .slice (some ⟨g0, 0, none⟩) n p0) (ad : Addr) (m c : Nat) (hx : a.eval xx = .slice (some ad) m c) (h1 : Sp.Sep W w items) (k : Nat) (hk : items[k]? = some (rowS e sz (.slice (some ⟨g0, 0, none⟩) n p0) n xs)) (hn : n + m < 1000) (hl : cs.length = m * sz)
    (hcs : ∀ j u, cs[j]? = some u → w.cell? (ad.add j) = some u) (h1c : ∀ u ∈ cs, u.oneCell' = true)
    (h : ∀ g' p' w', Sp.Sep W w' (items.set k (rowS e sz (.slice (some ⟨g', 0, none⟩) (n + m) p') (n + m) (xs ++ cs))) → wpList Try.prog ops Q rest (a.put o.dst (.slice (some ⟨g', 0, none⟩) (n + m) p')) w') : wpList Try.prog ops Q (o :: rest) a w := by
  obtain ⟨i0, hi0, hz0, hz1, hz2⟩ := info_parts hinfo
  obtain ⟨G, ⟨hrow, hG⟩, _, _, hstep⟩ := h1.at_ k hk
  have hb : (n + m) * bytes ≤ 140737488355328 := Nat.le_trans (Nat.mul_le_mul (show n + m ≤ 1000 by omega) hby) (by decide)
  refine wpList_append_own_at _ hgd sx xx _ ho 0 e i0 _ sz bytes ht hi0 hz0 hz1 hz2 hzs hsz _ n xs hs hrow ad m c cs hx hl hcs h1c
    (by unfold maxLen; omega) hb (Nat.zero_le _) ?_
  intro v' w' hown hg hnil hat
  have hS := hstep w' (fun b => v'.ownBlock = some b) (rowS e sz v' (n + m) (xs ++ cs)) ⟨hown, fun b => Iff.rfl⟩ (fun b hb => by
    rcases hat with e | e
    · left; exact (hG b).2 (e ▸ hb)
    · right; rw [e] at hb; injection hb with hb; omega) ((Only.refl _ _).grown hg (fun q hq => .inl ((hG q).2 hq)))
  rcases hown.2 with ⟨e1, _⟩ | ⟨g', cap, cur, e1, _⟩
  · have := (hnil.1 e1).1
    cases this
  · subst e1
    exact h g' cap w' hS
theorem CR.src {w : World} {g o n : Nat} {L : List Cd} (h : CR w (some ⟨g, o, none⟩) n L) : ∀ j u, (L.flatMap cdC)[j]? = some u → w.cell? ((⟨g, o, none⟩ : Addr).add j) = some u := fun j u hu => by
  have hlt := (List.getElem?_eq_some_iff.1 hu).1
  rw [flat_len cdC 5 cdC_len] at hlt
  have h0 : 0 < n := by rw [h.len]; omega
  obtain ⟨g', o', e, hc⟩ := h.c h0
  injection e with e
  injection e with e1 e2 _
  subst e1 e2
  have hj : j / 5 < L.length := by omega
  have h1 := hc (j / 5) (j % 5) _ (List.getElem?_eq_getElem hj) (by omega)
  have h2 := flat_get cdC 5 cdC_len L (j / 5) _ (j % 5) (List.getElem?_eq_getElem hj) (by omega)
  rw [show j / 5 * 5 + j % 5 = j by omega] at h2
  rw [show (⟨g, o, none⟩ : Addr).add j = ⟨g, o + j / 5 * 5 + j % 5, none⟩ by unfold Addr.add; by_cases h : j = 0 <;> simp [h] <;> omega]
  rw [h1, ← h2]
  exact hu
/-- 'x = append(x, l...)', l a row of records that can be read. -/
theorem wp_append_r {ops : Array Oper} {rest : List Oper} {o : Oper} {a : Act} {W w : World} {items : List Sp.Item} {Q : Exit → Act → World → Prop} {n p0 g0 : Nat} {xs : List Value} {L : List Cd} (hgd : o.guard = none) (sx xx : Operand)
    (ho : o.op = .call { callee := .builtin .append, args := #[sx, xx], argTypes := #[22, 22] }) (hs : a.eval sx = .slice (some ⟨g0, 0, none⟩) n p0) (A : Option Addr) (m c : Nat) (hx : a.eval xx = .slice A m c) (h1 : Sp.Sep W w items) (k : Nat) (hk : items[k]? = some (rowS 25 5 (.slice (some ⟨g0, 0, none⟩) n p0) n xs)) (hr : CR w A m L) (hn : n + m < 1000)
    (h : ∀ g' p' w', Sp.Sep W w' (items.set k (rowS 25 5 (.slice (some ⟨g', 0, none⟩) (n + m) p') (n + m) (xs ++ L.flatMap cdC))) → wpList Try.prog ops Q rest (a.put o.dst (.slice (some ⟨g', 0, none⟩) (n + m) p')) w') : wpList Try.prog ops Q (o :: rest) a w := by
  cases A with
  | some ad =>
    by_cases h0 : 0 < m
    · obtain ⟨g, ofs, e, _⟩ := hr.c h0
      injection e with e
      subst e
      exact wp_append_l cand_infos rfl (by decide) (by decide) Try.underlying22 hgd sx xx ho hs _ m c hx h1 k hk hn (by rw [flat_len cdC 5 cdC_len, ← hr.len]) hr.src (flat_one L) h
    · obtain rfl : m = 0 := by omega
      have hL : L = [] := List.eq_nil_of_length_eq_zero hr.len.symm
      subst hL
      exact wp_append_l cand_infos rfl (by decide) (by decide) Try.underlying22 hgd sx xx ho hs ad 0 c hx h1 k hk hn rfl (by intro j u hu; simp at hu) (by intro u hu; simp at hu) h
  | none =>
    have hm : m = 0 := by
      rcases Nat.eq_zero_or_pos m with h0 | h0
      · exact h0
      · obtain ⟨g, ofs, e, _⟩ := hr.c h0
        cases e
    subst hm
    have hL : L = [] := List.eq_nil_of_length_eq_zero hr.len.symm
    subst hL
    obtain ⟨i0, hi0, hz0, hz1, hz2⟩ := info_parts cand_infos
    obtain ⟨G, ⟨hrow, hG⟩, _, _, hstep⟩ := h1.at_ k hk
    have hrun := run_append_zero (P := Try.prog) (w := w) 0 22 o.type 25 i0 5 Try.underlying22 hi0 _ n xs hrow c
    have h2 := h g0 p0 w (by
      rw [Nat.add_zero, List.flatMap_nil, List.append_nil, set_same hk]
      exact h1)
    refine wpList_plain hgd fun K hK => ?_
    unfold Oper.wp execOp
    simp only [ho, resolve, invoke, builtin, Sem.run_bind, Sem.run_pure, Result.andThen_ok, List.map_toArray, List.map_cons, List.map_nil, hs, hx, hrun]
    exact hK _ _ h2

/-- A candidate's age is written. -/
theorem flat_set : ∀ (L : List Cd) (i : Nat) (x : Cd) (v : Int), L[i]? = some x → (L.flatMap cdC).set (i * 5 + 4) (.int .u64 v) = (L.set i ⟨x.s, x.l, x.v, x.n, v⟩).flatMap cdC
  | [], i, x, v, h => by simp at h
  | y :: L, 0, x, v, h => by
    have e : y = x := by simpa using h
    subst e
    rfl
  | y :: L, i + 1, x, v, h => by
    have h' : L[i]? = some x := by simpa using h
    have ih := flat_set L i x v h'
    show ((y :: L).flatMap cdC).set ((i + 1) * 5 + 4) _ = (y :: L.set i _).flatMap cdC
    rw [List.flatMap_cons, List.flatMap_cons, ← ih, show (i + 1) * 5 + 4 = (cdC y).length + (i * 5 + 4) by rw [cdC_len]; omega, List.set_append_right _ _ (by omega), Nat.add_sub_cancel_left]
end Go.Proofs.Ytgepkomomjmmhaa.Vi
