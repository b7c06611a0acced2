/- Rows of the call's own: three lists that a table owns; appending to each, cloning a list; contracts of slices.Clone, table's copied, and of the document's own Free; no memory that was there is changed. -/
import Derived.Test.YtpgbbbgblgkokaaTbC
import Derived.Maps.AppendAt
import Derived.Laws.OwnMore
import Derived.Deep.RegionLaw
import Derived.IntWalk
namespace Go.Proofs.Ytpgbbbgblgkokaa
open Go.RowKit Go.Lib
set_option linter.unusedVariables false

theorem info_of {P : Program} {e : TypeId} {z : Value} {n b : Nat} (h : (P.info? e).map (fun i => (i.zero, i.size, i.bytes)) = some (some z, n, b)) : ∃ i, P.info? e = some i ∧ i.zero = some z ∧ i.size = n ∧ i.bytes = b := by
  obtain ⟨i, hi, hzz⟩ := Option.map_eq_some_iff.1 h
  simp only [Prod.mk.injEq] at hzz
  exact ⟨i, hi, hzz.1, hzz.2.1, hzz.2.2⟩
theorem infoI : (Try.prog.info? 3).map (fun i => (i.zero, i.size, i.bytes)) = some (some (.int .i64 0), 1, 8) := by kernel_rfl
theorem infoU : (Try.prog.info? 23).map (fun i => (i.zero, i.size, i.bytes)) = some (some (.int .u64 0), 1, 8) := by kernel_rfl

/-- Numbers as cells. -/
def iv (κ : IntKind) (l : List Int) : List Value := l.map fun x => .int κ x
theorem iv_snoc (κ : IntKind) (l : List Int) (x : Int) : iv κ l ++ [.int κ x] = iv κ (l ++ [x]) := by simp [iv]
theorem iv_len (κ : IntKind) (l : List Int) : (iv κ l).length = l.length := by simp [iv]
theorem iv_at (κ : IntKind) {l : List Int} {j : Nat} (h : j < l.length) : (iv κ l)[j]? = some (.int κ (nth l j)) := by
  unfold iv
  rw [List.getElem?_map, List.getElem?_eq_getElem h, nth_lt h]
  rfl
theorem iv_one (κ : IntKind) (l : List Int) : ∀ u ∈ iv κ l, u.oneCell' = true := by
  intro u hu
  obtain ⟨x, _, rfl⟩ := List.mem_map.1 hu
  rfl
def ob (A : Option Addr) : Option Nat := A.map (·.block)
theorem ob_eq (A : Option Addr) (m p : Nat) : (Value.slice A m p).ownBlock = ob A := by cases A <;> rfl
theorem own_slice {w : World} {base : Nat} {e : TypeId} {size n : Nat} {v : Value} {xs : List Value} (ho : w.ownsRow base e size v n xs) : ∃ A c, v = .slice A n c := by
  rcases ho.2 with ⟨rfl, rfl⟩ | ⟨g, cap, cur, rfl, _⟩
  · exact ⟨none, 0, rfl⟩
  · exact ⟨_, _, rfl⟩
section
variable {κ : IntKind} {e : TypeId} {w w' : World} {base m p : Nat} {A : Option Addr} {l : List Int}
theorem own_sl (ho : w.ownsRow base e 1 (.slice A m p) m (iv κ l)) : Sl κ w A m l := by
  have hl : m = l.length := by have := ho.1; rw [iv_len] at this; omega
  refine ⟨hl, fun hn => ?_⟩
  rcases ho.2 with ⟨_, h0⟩ | ⟨g, cap, cur, he, hb, hg, hc⟩
  · omega
  · injection he with he
    subst he
    refine ⟨g, 0, rfl, (Array.getElem?_eq_some_iff.1 hg).1, fun j hj => ?_⟩
    have := ho.cells (g := g) rfl j (.int κ (nth l j)) (iv_at κ (by omega))
    rw [Addr.add_mid] at this
    exact this
theorem own_later {base : Nat} {e : TypeId} {size n : Nat} {v : Value} {xs : List Value} (ho : w.ownsRow base e size v n xs) (hb : Below w.heap.size w w') : w'.ownsRow base e size v n xs := by
  refine ⟨ho.1, ?_⟩
  rcases ho.2 with h | ⟨g, cap, cur, he, hbg, hg, hc⟩
  · exact .inl h
  · exact .inr ⟨g, cap, cur, he, hbg, (hb.block g (Array.getElem?_eq_some_iff.1 hg).1).trans hg, hc⟩
theorem own_base {base base' : Nat} {e : TypeId} {size n : Nat} {v : Value} {xs : List Value} (ho : w.ownsRow base e size v n xs) (h : base' ≤ base) : w.ownsRow base' e size v n xs := by
  refine ⟨ho.1, ?_⟩
  rcases ho.2 with h0 | ⟨g, cap, cur, he, hbg, hg, hc⟩
  · exact .inl h0
  · exact .inr ⟨g, cap, cur, he, by omega, hg, hc⟩
theorem own_ne {base base' : Nat} {e e' : TypeId} {size size' n n' : Nat} {v v' : Value} {xs xs' : List Value} (h : w.ownsRow base e size v n xs) (h' : w.ownsRow base' e' size' v' n' xs') (hne : e ≠ e') : ∀ g, v.ownBlock = some g → v'.ownBlock ≠ some g := by
  intro g hg hg'
  rcases h.2 with ⟨rfl, _⟩ | ⟨g1, _, _, rfl, _, h1, _⟩
  · cases hg
  rcases h'.2 with ⟨rfl, _⟩ | ⟨g2, _, _, rfl, _, h2, _⟩
  · cases hg'
  injection hg with hg
  injection hg' with hg'
  subst hg
  simp only at hg' h1 h2
  subst hg'
  rw [h1] at h2
  injection h2 with h2
  injection h2 with _ h2
  exact hne h2
/-- A row that is new and may be written. -/
def Fresh (W : World) (base : Nat) (A : Option Addr) (m : Nat) : Prop := 0 < m → ∃ b o, A = some ⟨b, o, none⟩ ∧ base ≤ b ∧ ∀ j, j < m → (∃ v, W.cell? ⟨b, o + j, none⟩ = some v) ∧ W.frozen? ⟨b, o + j, none⟩ = false
theorem own_fresh (ho : w.ownsRow base e 1 (.slice A m p) m (iv κ l)) : Fresh w base A m := by
  intro hn
  have hs := own_sl ho
  rcases ho.2 with ⟨_, h0⟩ | ⟨g, cap, cur, he, hb, hg, hc⟩
  · omega
  · injection he with he
    subst he
    obtain ⟨b, o, e, _, hcc⟩ := hs.cells hn
    injection e with e
    injection e with e1 e2
    subst e1 e2
    exact ⟨g, 0, rfl, hb, fun j hj => ⟨⟨_, hcc j hj⟩, frozen_of_row w g (0 + j) cur _ hg⟩⟩
end

/-- Three lists of the call's own. -/
structure Rows3 (base : Nat) (A : Option Addr) (m p : Nat) (B : Option Addr) (k q : Nat) (C : Option Addr) (n r : Nat) (o l f : List Int) (W : World) : Prop where
  a : W.ownsRow base 3 1 (.slice A m p) m (iv .i64 o)
  b : W.ownsRow base 3 1 (.slice B k q) k (iv .i64 l)
  c : W.ownsRow base 23 1 (.slice C n r) n (iv .u64 f)
  ab : ∀ g, ob A = some g → ob B ≠ some g
/-- A table in a block, whose lists are the call's own. -/
structure Own3 (T : TypeId) (base bc : Nat) (sg st : Int) (A : Option Addr) (m p : Nat) (B : Option Addr) (k q : Nat) (C : Option Addr) (n r : Nat) (o l f : List Int) (W : World) : Prop where
  z : Blk W bc T (csT sg st A m p B k q C n r)
  lt : bc < base
  s : Rows3 base A m p B k q C n r o l f W
  sz : base ≤ W.heap.size
section
variable {base : Nat} {sg st : Int} {A : Option Addr} {m p : Nat} {B : Option Addr} {k q : Nat} {C : Option Addr} {n r : Nat} {o l f : List Int} {W W' : World}
theorem Rows3.later (h : Rows3 base A m p B k q C n r o l f W) (hb : Below W.heap.size W W') : Rows3 base A m p B k q C n r o l f W' := ⟨own_later h.a hb, own_later h.b hb, own_later h.c hb, h.ab⟩
theorem Rows3.wide (h : Rows3 base A m p B k q C n r o l f W) {b' : Nat} (hb : b' ≤ base) : Rows3 b' A m p B k q C n r o l f W := ⟨own_base h.a hb, own_base h.b hb, own_base h.c hb, h.ab⟩
theorem Rows3.tin (h : Rows3 base A m p B k q C n r o l f W) : TIn W A m B k C n o l f := ⟨own_sl h.a, own_sl h.b, own_sl h.c⟩
theorem Own3.later {T : TypeId} {bc : Nat} (h : Own3 T base bc sg st A m p B k q C n r o l f W) (hb : Below W.heap.size W W') : Own3 T base bc sg st A m p B k q C n r o l f W' := ⟨h.z.later hb, h.lt, h.s.later hb, Nat.le_trans h.sz hb.size⟩
end

theorem blk_grown {W W' : World} {row : Option Nat} {b : Nat} {t : TypeId} {cs : Array Value} (h : Blk W b t cs) (hg : W.grownBy W' row) (hb : some b ≠ row) : Blk W' b t cs := (hg.block b h.lt hb).trans h
theorem grown_set (W : World) (b i : Nat) (u : Value) : W.grownBy (W.setCell ⟨b, i, none⟩ u) (some b) :=
  ⟨rfl, rfl, rfl, by simp, fun k _ hne => Below.heap_setCell W ⟨b, i, none⟩ u k (fun e => hne (by rw [e]))⟩
theorem Blk.set_ {w : World} {g : Nat} {t : TypeId} {cs : Array Value} (h : Blk w g t cs) (i : Nat) (u : Value) : Blk (w.setCell ⟨g, i, none⟩ u) g t (cs.setIfInBounds i u) := by
  unfold Blk at h ⊢
  simp [World.setCell, Array.getElem?_modify, h]
theorem own_kept {w w' : World} {base : Nat} {e : TypeId} {size n n' : Nat} {A B : Option Addr} {p q : Nat} {xs : List Value} (h : w.ownsRow base e size (.slice B n q) n' xs) (hg : w.grownBy w' (ob A)) (hne : ∀ g, ob A = some g → ob B ≠ some g) : w'.ownsRow base e size (.slice B n q) n' xs := by
  refine h.kept hg ?_
  rw [ob_eq]
  cases hq : ob B with
  | none => exact .inl rfl
  | some r => exact .inr (fun e => hne r e.symm hq)

/-- An append whose run is known. -/
theorem list_append_run {ops : Array Oper} {rest : List Oper} {o : Oper} {a : Act} {w : World} {Q : Exit → Act → World → Prop} (hgd : o.guard = none) (s x : Operand) (T : TypeId)
    (ho : o.op = .call { callee := .builtin .append, args := #[s, x], argTypes := #[T, T] }) (u1 u2 : Value) (hs : a.eval s = u1) (hx : a.eval x = u2) {v' : Value} {W5 : World}
    (hrun : ∀ ty, (Builtin.append_ #[T, T] ty #[u1, u2]).run Try.prog w = .ok v' W5) (h : wpList Try.prog ops Q rest (a.put o.dst v') W5) : wpList Try.prog ops Q (o :: rest) a w := by
  refine wpList_plain hgd fun K hK => ?_
  unfold Oper.wp
  simp only [execOp, ho, resolve, invoke, builtin, Sem.run_bind, Sem.run_pure, Result.andThen_ok, List.map_toArray, List.map_cons, List.map_nil, hs, hx, hrun]
  exact hK _ _ h
theorem step_append_run {ops : Array Oper} {o : Oper} {a : Act} {w : World} {K : Act → World → Prop} {Q : Exit → Act → World → Prop} {E : Prop} (hgd : o.guard = none) (s x : Operand) (T : TypeId)
    (ho : o.op = .call { callee := .builtin .append, args := #[s, x], argTypes := #[T, T] }) (u1 u2 : Value) (hs : a.eval s = u1) (hx : a.eval x = u2) {v' : Value} {W5 : World}
    (hrun : ∀ ty, (Builtin.append_ #[T, T] ty #[u1, u2]).run Try.prog w = .ok v' W5) (h : K (a.put o.dst v') W5) :
    if Region.wanted o (yielded ops a.tmps) = true then Oper.wp Try.prog o a w K Q else E := by
  have hw : Region.wanted o (yielded ops a.tmps) = true := by simp [Region.wanted, hgd]
  rw [if_pos hw]
  unfold Oper.wp
  simp only [execOp, ho, resolve, invoke, builtin, Sem.run_bind, Sem.run_pure, Result.andThen_ok, List.map_toArray, List.map_cons, List.map_nil, hs, hx, hrun]
  exact h

/-- One number more behind a row of the call's own. -/
theorem push_run {κ : IntKind} {e T : TypeId} {z : Value} (hT : Try.prog.underlying T = some (.slice e)) (hI : (Try.prog.info? e).map (fun i => (i.zero, i.size, i.bytes)) = some (some z, 1, 8)) (hz : z.cells.size = 1)
    {W : World} {base m p nb : Nat} {A : Option Addr} {o : List Int} {x : Int} (h : W.ownsRow base e 1 (.slice A m p) m (iv κ o)) (hm : m < 1000) (hc : W.cell? ⟨nb, 0, none⟩ = some (.int κ x)) (hb : base ≤ W.heap.size) :
    ∃ g p' W5, (∀ ty, (Builtin.append_ #[T, T] ty #[.slice A m p, .slice (some ⟨nb, 0, none⟩) 1 1]).run Try.prog W = .ok (.slice (some ⟨g, 0, none⟩) (m + 1) p') W5) ∧
      W5.ownsRow base e 1 (.slice (some ⟨g, 0, none⟩) (m + 1) p') (m + 1) (iv κ (o ++ [x])) ∧ W.grownBy W5 (ob A) ∧ (ob A = some g ∨ g = W.heap.size) ∧ g < W5.heap.size := by
  obtain ⟨i0, hi0, hz0, hz1, hz2⟩ := info_of hI
  have key : ∀ ty, _ := fun ty => run_append_own_at (P := Try.prog) W base T ty e i0 z 1 8 hT hi0 hz0 hz1 hz2 hz (by omega) (.slice A m p) m (iv κ o) h ⟨nb, 0, none⟩ 1 1 [.int κ x] rfl
    (fun j u hu => by
      rw [Addr.add_mid, Nat.zero_add]
      cases j with
      | zero => simp at hu; subst hu; exact hc
      | succ j => simp at hu)
    (by intro u hu; simp at hu; subst hu; rfl) (by unfold maxLen; omega) (by omega) hb
  obtain ⟨v5, W5, hrun, own5, g5, _, hat5⟩ := key T
  obtain ⟨g, p', rfl⟩ : ∃ g p', v5 = .slice (some ⟨g, 0, none⟩) (m + 1) p' := by
    rcases own5.2 with ⟨_, h0⟩ | ⟨g, cap, cur, rfl, _⟩
    · omega
    · exact ⟨_, _, rfl⟩
  rw [iv_snoc] at own5
  rw [ob_eq] at g5
  simp only [ob_eq] at hat5
  refine ⟨g, p', W5, fun ty => hrun, own5, g5, ?_, (own5.lt g rfl).2⟩
  rcases hat5 with e | e
  · exact .inl e.symm
  · right
    injection e

theorem Own3.push_a {T : TypeId} {base bc : Nat} {sg st : Int} {A : Option Addr} {m p : Nat} {B : Option Addr} {k q : Nat} {C : Option Addr} {n r : Nat} {o l f : List Int} {W : World} {nb : Nat} {x : Int} (h : Own3 T base bc sg st A m p B k q C n r o l f W) (hc : W.cell? ⟨nb, 0, none⟩ = some (.int .i64 x)) (hm : m < 1000) :
    ∃ g p' W5, (∀ ty, (Builtin.append_ #[25, 25] ty #[.slice A m p, .slice (some ⟨nb, 0, none⟩) 1 1]).run Try.prog W = .ok (.slice (some ⟨g, 0, none⟩) (m + 1) p') W5) ∧
      W5.cell? ⟨bc, 2, none⟩ = some (.slice A m p) ∧ W5.frozen? ⟨bc, 2, none⟩ = false ∧ Own3 T base bc sg st (some ⟨g, 0, none⟩) (m + 1) p' B k q C n r (o ++ [x]) l f (W5.setCell ⟨bc, 2, none⟩ (.slice (some ⟨g, 0, none⟩) (m + 1) p')) ∧
      (∀ w0, Below w0.heap.size w0 W → w0.heap.size ≤ bc → Below w0.heap.size w0 (W5.setCell ⟨bc, 2, none⟩ (.slice (some ⟨g, 0, none⟩) (m + 1) p'))) ∧ (∀ b t cs, Blk W b t cs → b < base → b ≠ bc → Blk (W5.setCell ⟨bc, 2, none⟩ (.slice (some ⟨g, 0, none⟩) (m + 1) p')) b t cs) := by
  obtain ⟨g, p', W5, hrun, own5, g5, hat, hlt⟩ := push_run (T := 25) Try.underlying25 infoI rfl h.s.a hm hc h.sz
  have hrow : ∀ j, ob A = some j → base ≤ j := fun j hj => (h.s.a.lt j (by rw [ob_eq]; exact hj)).1
  have k5 := blk_grown h.z g5 (fun e => by have := hrow bc e.symm; have := h.lt; omega)
  have gs := grown_set W5 bc 2 (.slice (some ⟨g, 0, none⟩) (m + 1) p')
  have keep : ∀ {e' : TypeId} {B' : Option Addr} {n' q' : Nat} {xs : List Value}, W5.ownsRow base e' 1 (.slice B' n' q') n' xs → (W5.setCell ⟨bc, 2, none⟩ (.slice (some ⟨g, 0, none⟩) (m + 1) p')).ownsRow base e' 1 (.slice B' n' q') n' xs := fun {e'} {B'} {n'} {q'} {xs} ho => ho.kept gs (by
    cases hq : (Value.slice B' n' q').ownBlock with
    | none => exact .inl rfl
    | some j => exact .inr (fun e => by injection e with e; have := (ho.lt j hq).1; have := h.lt; omega))
  refine ⟨g, p', W5, hrun, k5.cell 2, k5.frozen 2, ⟨?_, h.lt, ⟨?_, ?_, ?_, ?_⟩, ?_⟩, fun w0 hb hle => ?_, fun b t cs hB hb hne => ?_⟩
  · exact k5.set_ 2 _
  · exact keep own5
  · exact keep (own_kept (p := 0) h.s.b g5 h.s.ab)
  · exact keep (own_kept (p := 0) h.s.c g5 (fun j hj => by have := own_ne h.s.a h.s.c (by decide) j; rw [ob_eq, ob_eq] at this; exact this hj))
  · intro j hj hh
    injection hj with hj
    have hj : g = j := hj
    rcases hat with e | e
    · exact h.s.ab j (by rw [e, hj]) hh
    · have := (h.s.b.lt j (by rw [ob_eq]; exact hh)).2
      omega
  · have := g5.size; have := h.sz; simp; omega
  · refine Below.setCell (p := ⟨bc, 2, none⟩) ?_ hle _
    exact hb.grown g5 hb.size (fun j hj => by have := hrow j hj; have := h.lt; omega)
  · exact blk_grown (blk_grown hB g5 (fun e => by have := hrow b e.symm; omega)) gs (fun e => by injection e with e; exact hne e)

theorem Own3.push_b {T : TypeId} {base bc : Nat} {sg st : Int} {A : Option Addr} {m p : Nat} {B : Option Addr} {k q : Nat} {C : Option Addr} {n r : Nat} {o l f : List Int} {W : World} {nb : Nat} {x : Int} (h : Own3 T base bc sg st A m p B k q C n r o l f W) (hc : W.cell? ⟨nb, 0, none⟩ = some (.int .i64 x)) (hm : k < 1000) :
    ∃ g p' W5, (∀ ty, (Builtin.append_ #[25, 25] ty #[.slice B k q, .slice (some ⟨nb, 0, none⟩) 1 1]).run Try.prog W = .ok (.slice (some ⟨g, 0, none⟩) (k + 1) p') W5) ∧
      W5.cell? ⟨bc, 3, none⟩ = some (.slice B k q) ∧ W5.frozen? ⟨bc, 3, none⟩ = false ∧ Own3 T base bc sg st A m p (some ⟨g, 0, none⟩) (k + 1) p' C n r o (l ++ [x]) f (W5.setCell ⟨bc, 3, none⟩ (.slice (some ⟨g, 0, none⟩) (k + 1) p')) ∧
      (∀ w0, Below w0.heap.size w0 W → w0.heap.size ≤ bc → Below w0.heap.size w0 (W5.setCell ⟨bc, 3, none⟩ (.slice (some ⟨g, 0, none⟩) (k + 1) p'))) ∧ (∀ b t cs, Blk W b t cs → b < base → b ≠ bc → Blk (W5.setCell ⟨bc, 3, none⟩ (.slice (some ⟨g, 0, none⟩) (k + 1) p')) b t cs) := by
  obtain ⟨g, p', W5, hrun, own5, g5, hat, hlt⟩ := push_run (T := 25) Try.underlying25 infoI rfl h.s.b hm hc h.sz
  have hrow : ∀ j, ob B = some j → base ≤ j := fun j hj => (h.s.b.lt j (by rw [ob_eq]; exact hj)).1
  have k5 := blk_grown h.z g5 (fun e => by have := hrow bc e.symm; have := h.lt; omega)
  have gs := grown_set W5 bc 3 (.slice (some ⟨g, 0, none⟩) (k + 1) p')
  have keep : ∀ {e' : TypeId} {B' : Option Addr} {n' q' : Nat} {xs : List Value}, W5.ownsRow base e' 1 (.slice B' n' q') n' xs → (W5.setCell ⟨bc, 3, none⟩ (.slice (some ⟨g, 0, none⟩) (k + 1) p')).ownsRow base e' 1 (.slice B' n' q') n' xs := fun {e'} {B'} {n'} {q'} {xs} ho => ho.kept gs (by
    cases hq : (Value.slice B' n' q').ownBlock with
    | none => exact .inl rfl
    | some j => exact .inr (fun e => by injection e with e; have := (ho.lt j hq).1; have := h.lt; omega))
  refine ⟨g, p', W5, hrun, k5.cell 3, k5.frozen 3, ⟨?_, h.lt, ⟨?_, ?_, ?_, ?_⟩, ?_⟩, fun w0 hb hle => ?_, fun b t cs hB hb hne => ?_⟩
  · exact k5.set_ 3 _
  · exact keep (own_kept (p := 0) h.s.a g5 (fun j hj hh => h.s.ab j hh hj))
  · exact keep own5
  · exact keep (own_kept (p := 0) h.s.c g5 (fun j hj => by have := own_ne h.s.b h.s.c (by decide) j; rw [ob_eq, ob_eq] at this; exact this hj))
  · intro j hj hh
    injection hh with hh
    have hh : g = j := hh
    rcases hat with e | e
    · exact h.s.ab j hj (by rw [e, hh])
    · have := (h.s.a.lt j (by rw [ob_eq]; exact hj)).2
      omega
  · have := g5.size; have := h.sz; simp; omega
  · refine Below.setCell (p := ⟨bc, 3, none⟩) ?_ hle _
    exact hb.grown g5 hb.size (fun j hj => by have := hrow j hj; have := h.lt; omega)
  · exact blk_grown (blk_grown hB g5 (fun e => by have := hrow b e.symm; omega)) gs (fun e => by injection e with e; exact hne e)

theorem Own3.push_c {T : TypeId} {base bc : Nat} {sg st : Int} {A : Option Addr} {m p : Nat} {B : Option Addr} {k q : Nat} {C : Option Addr} {n r : Nat} {o l f : List Int} {W : World} {nb : Nat} {x : Int} (h : Own3 T base bc sg st A m p B k q C n r o l f W) (hc : W.cell? ⟨nb, 0, none⟩ = some (.int .u64 x)) (hm : n < 1000) :
    ∃ g p' W5, (∀ ty, (Builtin.append_ #[26, 26] ty #[.slice C n r, .slice (some ⟨nb, 0, none⟩) 1 1]).run Try.prog W = .ok (.slice (some ⟨g, 0, none⟩) (n + 1) p') W5) ∧
      W5.cell? ⟨bc, 4, none⟩ = some (.slice C n r) ∧ W5.frozen? ⟨bc, 4, none⟩ = false ∧ Own3 T base bc sg st A m p B k q (some ⟨g, 0, none⟩) (n + 1) p' o l (f ++ [x]) (W5.setCell ⟨bc, 4, none⟩ (.slice (some ⟨g, 0, none⟩) (n + 1) p')) ∧
      (∀ w0, Below w0.heap.size w0 W → w0.heap.size ≤ bc → Below w0.heap.size w0 (W5.setCell ⟨bc, 4, none⟩ (.slice (some ⟨g, 0, none⟩) (n + 1) p'))) ∧ (∀ b t cs, Blk W b t cs → b < base → b ≠ bc → Blk (W5.setCell ⟨bc, 4, none⟩ (.slice (some ⟨g, 0, none⟩) (n + 1) p')) b t cs) := by
  obtain ⟨g, p', W5, hrun, own5, g5, hat, hlt⟩ := push_run (T := 26) Try.underlying26 infoU rfl h.s.c hm hc h.sz
  have hrow : ∀ j, ob C = some j → base ≤ j := fun j hj => (h.s.c.lt j (by rw [ob_eq]; exact hj)).1
  have k5 := blk_grown h.z g5 (fun e => by have := hrow bc e.symm; have := h.lt; omega)
  have gs := grown_set W5 bc 4 (.slice (some ⟨g, 0, none⟩) (n + 1) p')
  have keep : ∀ {e' : TypeId} {B' : Option Addr} {n' q' : Nat} {xs : List Value}, W5.ownsRow base e' 1 (.slice B' n' q') n' xs → (W5.setCell ⟨bc, 4, none⟩ (.slice (some ⟨g, 0, none⟩) (n + 1) p')).ownsRow base e' 1 (.slice B' n' q') n' xs := fun {e'} {B'} {n'} {q'} {xs} ho => ho.kept gs (by
    cases hq : (Value.slice B' n' q').ownBlock with
    | none => exact .inl rfl
    | some j => exact .inr (fun e => by injection e with e; have := (ho.lt j hq).1; have := h.lt; omega))
  refine ⟨g, p', W5, hrun, k5.cell 4, k5.frozen 4, ⟨?_, h.lt, ⟨?_, ?_, ?_, ?_⟩, ?_⟩, fun w0 hb hle => ?_, fun b t cs hB hb hne => ?_⟩
  · exact k5.set_ 4 _
  · exact keep (own_kept (p := 0) h.s.a g5 (fun j hj => by have := own_ne h.s.c h.s.a (by decide) j; rw [ob_eq, ob_eq] at this; exact this hj))
  · exact keep (own_kept (p := 0) h.s.b g5 (fun j hj => by have := own_ne h.s.c h.s.b (by decide) j; rw [ob_eq, ob_eq] at this; exact this hj))
  · exact keep own5
  · exact h.s.ab
  · have := g5.size; have := h.sz; simp; omega
  · refine Below.setCell (p := ⟨bc, 4, none⟩) ?_ hle _
    exact hb.grown g5 hb.size (fun j hj => by have := hrow j hj; have := h.lt; omega)
  · exact blk_grown (blk_grown hB g5 (fun e => by have := hrow b e.symm; omega)) gs (fun e => by injection e with e; exact hne e)
end Go.Proofs.Ytpgbbbgblgkokaa
