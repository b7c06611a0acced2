/- A drawn region in which one call tells a value and an error, the value goes through two slots into a new block (of one type), in whatever order: what the call tells may speak of memory, and of blocks that it does not lie in. No program is spoken of. -/
import Derived.WalkKit
import Derived.Orders
import Derived.Below
import Derived.Laws.Rows
import Derived.Laws.Tables
import Derived.Test.YtfhdckmpodmejaaFreeC
namespace Go.Proofs.Ytfhdckmpodmejaa.NewC
open Go.RowKit Free
set_option linter.unusedVariables false

theorem geTrans {a b c : World} (h : Below a.heap.size a b) (k : Below b.heap.size b c) : Below a.heap.size a c := h.trans (k.mono h.size)
theorem below1 (w : World) (o : Obj) : Below w.heap.size w (w.alloc o) := (Below.refl _ _).alloc (Nat.le_refl _) _
theorem put_ne {a : Act} {d j : Nat} (v : Value) (h : d ≠ j) : (a.put (some d) v).tmps.getD j undef = a.tmps.getD j undef := Free.slot_ne v h
theorem put_eq {a : Act} {d : Nat} (v : Value) (h : d < a.tmps.size) : (a.put (some d) v).tmps.getD d undef = v := by unfold Act.put; simp [h]
theorem set_self {listed : Array Bool} {i : Nat} (h : i < listed.size) : (listed.setIfInBounds i true).getD i false = true := by simp [h]
theorem not_listed {listed : Array Bool} {i : Nat} (hi : i < listed.size) (h : listed.getD i true = false) : listed.getD i false = false := by
  simp only [Array.getD_eq_getD_getElem?] at h ⊢
  have : listed[i]? = some (listed[i]'hi) := Array.getElem?_eq_getElem hi
  rw [this] at h ⊢
  exact h
theorem setRow_size (w : World) (g : Nat) (cs : Array Value) : (w.setRow g cs).heap.size = w.heap.size := by unfold World.setRow; simp
theorem row_below {a w : World} {n g : Nat} {cs : Array Value} (h : Below n a w) (hg : n ≤ g) : Below n a (w.setRow g cs) :=
  ⟨h.os, h.tape, h.output, by rw [setRow_size]; exact h.size, fun k hk => (setRow_other w g k cs (by omega)).trans (h.block k hk)⟩

/-- What may be told of a value: it stays where memory grows, where a block is written that it does not lie in, and it lies in no new block. -/
structure Tells (R : (Nat → Prop) → Value → World → Prop) : Prop where
  later : ∀ {S u W W'}, R S u W → Below W.heap.size W W' → R S u W'
  weak : ∀ {S S' u W}, R S u W → (∀ g, S' g → S g ∨ W.heap.size ≤ g) → R S' u W
  row : ∀ {S u W g} (cs : Array Value), R S u W → S g → R S u (W.setRow g cs)

/-- The numbers of the operations: the call, the tuple laid aside, its first part, the alloc, the store; and the slots of the first four. -/
structure Nums where
  ic : Nat
  im : Nat
  ip : Nat
  ia : Nat
  ix : Nat
  sc : Nat
  sm : Nat
  sp : Nat
  sa : Nat
structure Nums.Ok (n : Nums) : Prop where
  cm : n.ic ≠ n.im
  cp : n.ic ≠ n.ip
  ca : n.ic ≠ n.ia
  cx : n.ic ≠ n.ix
  mp : n.im ≠ n.ip
  ma : n.im ≠ n.ia
  mx : n.im ≠ n.ix
  pa : n.ip ≠ n.ia
  px : n.ip ≠ n.ix
  ax : n.ia ≠ n.ix
  scm : n.sc ≠ n.sm
  scp : n.sc ≠ n.sp
  sca : n.sc ≠ n.sa
  smp : n.sm ≠ n.sp
  sma : n.sm ≠ n.sa
  spa : n.sp ≠ n.sa

/-- The blocks that the value lies not in. -/
def Sf (n : Nums) (S : Nat → Prop) (listed : Array Bool) (a : Act) (g : Nat) : Prop :=
  S g ∨ (listed.getD n.ia false = true ∧ a.tmps.getD n.sa undef = .pointer (some ⟨g, 0, none⟩))
structure Cs (n : Nums) (w : World) (T : TypeId) (N : Nat) (y : Value) (R : (Nat → Prop) → Value → World → Prop) (S : Nat → Prop) (u : Value) (listed : Array Bool) (a : Act) (W : World) : Prop where
  b : Below w.heap.size w W
  dc : listed.getD n.ic false = true → a.tmps.getD n.sc undef = .tuple #[u, y] ∧ R (Sf n S listed a) u W
  dm : listed.getD n.im false = true → listed.getD n.ic false = true ∧ a.tmps.getD n.sm undef = .tuple #[u, y]
  dp : listed.getD n.ip false = true → listed.getD n.im false = true ∧ a.tmps.getD n.sp undef = u
  da : listed.getD n.ia false = true → ∃ b vs, a.tmps.getD n.sa undef = .pointer (some ⟨b, 0, none⟩) ∧ w.heap.size ≤ b ∧ vs.size = N ∧ W.heap[b]? = some (.cells vs T (0, 0)) ∧ (listed.getD n.ix false = true → u = .agg vs)
  dx : listed.getD n.ix false = true → listed.getD n.ic false = true
  ex : listed.getD n.ix false = true → listed.getD n.ia false = true
def C (n : Nums) (w : World) (T : TypeId) (N : Nat) (y : Value) (R : (Nat → Prop) → Value → World → Prop) (S : Nat → Prop) (listed : Array Bool) (a : Act) (W : World) : Prop := ∃ u, Cs n w T N y R S u listed a W

section
variable {n : Nums} {w W W' : World} {T : TypeId} {N : Nat} {y : Value} {R : (Nat → Prop) → Value → World → Prop} {S : Nat → Prop} {u : Value} {listed : Array Bool} {a : Act}
theorem C.start (k : Nat) : C n w T N y R S (Array.replicate k false) a { w with drawn := w.drawn + 1 } := by
  have h : ∀ i, ¬ (Array.replicate k false).getD i false = true := fun i e => by
    simp only [Array.getD_eq_getD_getElem?, Array.getElem?_replicate] at e
    split at e <;> simp at e
  exact ⟨undef, ⟨(Below.refl _ _).drew, fun e => absurd e (h _), fun e => absurd e (h _), fun e => absurd e (h _), fun e => absurd e (h _), fun e => absurd e (h _), fun e => absurd e (h _)⟩⟩
theorem C.b (h : C n w T N y R S listed a W) : Below w.heap.size w W := by obtain ⟨u, h⟩ := h; exact h.b
theorem Sf.keep {i d : Nat} {x : Value} (h1 : i ≠ n.ia) (hd : d ≠ n.sa) {g : Nat} (h : Sf n S (listed.setIfInBounds i true) (a.put (some d) x) g) : Sf n S listed a g := by
  unfold Sf at *
  rw [getD_set_ne false h1, put_ne x hd] at h
  exact h
/-- An operation that is none of those. -/
theorem Cs.step (hR : Tells R) (h : Cs n w T N y R S u listed a W) (i d : Nat) (x : Value) (hi : i ≠ n.ic ∧ i ≠ n.im ∧ i ≠ n.ip ∧ i ≠ n.ia ∧ i ≠ n.ix) (hd : d ≠ n.sc ∧ d ≠ n.sm ∧ d ≠ n.sp ∧ d ≠ n.sa) (hb : Below W.heap.size W W') :
    Cs n w T N y R S u (listed.setIfInBounds i true) (a.put (some d) x) W' := by
  obtain ⟨i1, i2, i3, i4, i5⟩ := hi
  obtain ⟨s1, s2, s3, s4⟩ := hd
  refine ⟨geTrans h.b hb, ?_, ?_, ?_, ?_, ?_, ?_⟩
  · rw [getD_set_ne false i1, put_ne x s1]
    exact fun e => ⟨(h.dc e).1, hR.weak (hR.later (h.dc e).2 hb) fun g hg => .inl (hg.keep i4 s4)⟩
  · rw [getD_set_ne false i2, getD_set_ne false i1, put_ne x s2]; exact h.dm
  · rw [getD_set_ne false i3, getD_set_ne false i2, put_ne x s3]; exact h.dp
  · rw [getD_set_ne false i4, getD_set_ne false i5, put_ne x s4]
    intro e
    obtain ⟨b, vs, e1, e2, e3, e4, e5⟩ := h.da e
    exact ⟨b, vs, e1, e2, e3, (hb.block b (Array.getElem?_eq_some_iff.1 e4).1).trans e4, e5⟩
  · rw [getD_set_ne false i5, getD_set_ne false i1]; exact h.dx
  · rw [getD_set_ne false i5, getD_set_ne false i4]; exact h.ex
theorem C.step (hR : Tells R) (h : C n w T N y R S listed a W) (i d : Nat) (x : Value) (hi : i ≠ n.ic ∧ i ≠ n.im ∧ i ≠ n.ip ∧ i ≠ n.ia ∧ i ≠ n.ix) (hd : d ≠ n.sc ∧ d ≠ n.sm ∧ d ≠ n.sp ∧ d ≠ n.sa) (hb : Below W.heap.size W W') :
    C n w T N y R S (listed.setIfInBounds i true) (a.put (some d) x) W' := by
  obtain ⟨u, h⟩ := h
  exact ⟨u, h.step hR i d x hi hd hb⟩
/-- The call: what it tells lies in no block of S, and in none that is newer than the region's start and was there ahead of it. -/
theorem C.call (hR : Tells R) (hn : n.Ok) (h : C n w T N y R S listed a W) (hno : listed.getD n.ic false = false) (ha : n.sc < a.tmps.size) {u : Value} (hu : R (fun g => S g ∨ (w.heap.size ≤ g ∧ g < W.heap.size)) u W') (hb : Below W.heap.size W W') :
    C n w T N y R S (listed.setIfInBounds n.ic true) (a.put (some n.sc) (.tuple #[u, y])) W' := by
  obtain ⟨u0, h⟩ := h
  have nm : ¬ listed.getD n.im false = true := fun e => by rw [(h.dm e).1] at hno; cases hno
  have np : ¬ listed.getD n.ip false = true := fun e => nm (h.dp e).1
  have nx : ¬ listed.getD n.ix false = true := fun e => by rw [h.dx e] at hno; cases hno
  refine ⟨u, ⟨geTrans h.b hb, fun _ => ⟨put_eq _ ha, hR.weak hu fun g hg => ?_⟩, ?_, ?_, ?_, ?_, ?_⟩⟩
  · rcases hg.keep hn.ca hn.sca with hg | ⟨e, hp⟩
    · exact .inl (.inl hg)
    · obtain ⟨b, vs, e1, e2, _, e4, _⟩ := h.da e
      rw [hp] at e1
      injection e1 with e1
      injection e1 with e1
      injection e1 with e1
      subst e1
      exact .inl (.inr ⟨e2, (Array.getElem?_eq_some_iff.1 e4).1⟩)
  · rw [getD_set_ne false hn.cm]; exact fun e => absurd e nm
  · rw [getD_set_ne false hn.cp]; exact fun e => absurd e np
  · rw [getD_set_ne false hn.ca, getD_set_ne false hn.cx, put_ne _ hn.sca]
    intro e
    obtain ⟨b, vs, e1, e2, e3, e4, _⟩ := h.da e
    exact ⟨b, vs, e1, e2, e3, (hb.block b (Array.getElem?_eq_some_iff.1 e4).1).trans e4, fun e => absurd e nx⟩
  · rw [getD_set_ne false hn.cx]; exact fun e => absurd e nx
  · rw [getD_set_ne false hn.cx]; exact fun e => absurd e nx
/-- The tuple laid aside. -/
theorem Cs.move (hR : Tells R) (hn : n.Ok) (h : Cs n w T N y R S u listed a W) (hl : listed.getD n.ic false = true) (hsz : n.im < listed.size) (ha : n.sm < a.tmps.size) : Cs n w T N y R S u (listed.setIfInBounds n.im true) (a.put (some n.sm) (.tuple #[u, y])) W := by
  refine ⟨h.b, ?_, ?_, ?_, ?_, ?_, ?_⟩
  · rw [getD_set_ne false hn.cm.symm, put_ne _ hn.scm.symm]
    exact fun e => ⟨(h.dc e).1, hR.weak (h.dc e).2 fun g hg => .inl (hg.keep hn.ma hn.sma)⟩
  · rw [getD_set_ne false hn.cm.symm]
    exact fun _ => ⟨hl, put_eq _ ha⟩
  · rw [getD_set_ne false hn.mp, put_ne _ hn.smp]
    exact fun e => ⟨set_self hsz, (h.dp e).2⟩
  · rw [getD_set_ne false hn.ma, getD_set_ne false hn.mx, put_ne _ hn.sma]; exact h.da
  · rw [getD_set_ne false hn.mx, getD_set_ne false hn.cm.symm]; exact h.dx
  · rw [getD_set_ne false hn.mx, getD_set_ne false hn.ma]; exact h.ex
/-- Its first part. -/
theorem Cs.part (hR : Tells R) (hn : n.Ok) (h : Cs n w T N y R S u listed a W) (hl : listed.getD n.im false = true) (hsz : n.ip < listed.size) (ha : n.sp < a.tmps.size) : Cs n w T N y R S u (listed.setIfInBounds n.ip true) (a.put (some n.sp) u) W := by
  refine ⟨h.b, ?_, ?_, ?_, ?_, ?_, ?_⟩
  · rw [getD_set_ne false hn.cp.symm, put_ne _ hn.scp.symm]
    exact fun e => ⟨(h.dc e).1, hR.weak (h.dc e).2 fun g hg => .inl (hg.keep hn.pa hn.spa)⟩
  · rw [getD_set_ne false hn.mp.symm, getD_set_ne false hn.cp.symm, put_ne _ hn.smp.symm]; exact h.dm
  · rw [getD_set_ne false hn.mp.symm]
    exact fun _ => ⟨hl, put_eq _ ha⟩
  · rw [getD_set_ne false hn.pa, getD_set_ne false hn.px, put_ne _ hn.spa]; exact h.da
  · rw [getD_set_ne false hn.px, getD_set_ne false hn.cp.symm]; exact h.dx
  · rw [getD_set_ne false hn.px, getD_set_ne false hn.pa]; exact h.ex
/-- The new block. -/
theorem Cs.alloc (hR : Tells R) (hn : n.Ok) (h : Cs n w T N y R S u listed a W) (hsz : n.ia < listed.size) (hno : listed.getD n.ia false = false) (ha : n.sa < a.tmps.size) (vs : Array Value) (hv : vs.size = N) :
    Cs n w T N y R S u (listed.setIfInBounds n.ia true) (a.put (some n.sa) (.pointer (some ⟨W.heap.size, 0, none⟩))) (W.alloc (.cells vs T)) := by
  have hb := below1 W (.cells vs T)
  have ea := put_eq (.pointer (some ⟨W.heap.size, 0, none⟩)) ha
  refine ⟨geTrans h.b hb, ?_, ?_, ?_, fun _ => ⟨W.heap.size, vs, ea, h.b.size, hv, heap_alloc_new W _, ?_⟩, ?_, ?_⟩
  · rw [getD_set_ne false hn.ca.symm, put_ne _ hn.sca.symm]
    refine fun e => ⟨(h.dc e).1, hR.weak (hR.later (hR.weak (S' := fun g => Sf n S listed a g ∨ W.heap.size ≤ g) (h.dc e).2 fun g hg => hg) hb) fun g hg => ?_⟩
    rcases hg with hg | ⟨_, hp⟩
    · exact .inl (.inl (.inl hg))
    · rw [ea] at hp
      injection hp with hp
      injection hp with hp
      injection hp with hp
      exact .inl (.inr (by omega))
  · rw [getD_set_ne false hn.ma.symm, getD_set_ne false hn.ca.symm, put_ne _ hn.sma.symm]; exact h.dm
  · rw [getD_set_ne false hn.pa.symm, getD_set_ne false hn.ma.symm, put_ne _ hn.spa.symm]; exact h.dp
  · rw [getD_set_ne false hn.ax]
    exact fun e => by rw [h.ex e] at hno; cases hno
  · rw [getD_set_ne false hn.ax, getD_set_ne false hn.ca.symm]; exact h.dx
  · exact fun _ => set_self hsz
/-- The store. -/
theorem Cs.store (hR : Tells R) (hn : n.Ok) (h : Cs n w T N y R S u listed a W) (hlc : listed.getD n.ic false = true) (hla : listed.getD n.ia false = true) {b : Nat} {vs us : Array Value} (e1 : a.tmps.getD n.sa undef = .pointer (some ⟨b, 0, none⟩)) (hb : w.heap.size ≤ b) (hB : W.heap[b]? = some (.cells vs T (0, 0))) (hu : us.size = N) (hus : u = .agg us) :
    Cs n w T N y R S u (listed.setIfInBounds n.ix true) (a.put none undef) (W.setRow b us) := by
  refine ⟨row_below h.b hb, ?_, ?_, ?_, ?_, ?_, ?_⟩
  · rw [getD_set_ne false hn.cx.symm]
    refine fun e => ⟨(h.dc e).1, hR.weak (hR.row us (h.dc e).2 (.inr ⟨hla, e1⟩)) fun g hg => ?_⟩
    unfold Sf at hg
    rw [getD_set_ne false hn.ax.symm] at hg
    exact .inl hg
  · rw [getD_set_ne false hn.mx.symm, getD_set_ne false hn.cx.symm]; exact h.dm
  · rw [getD_set_ne false hn.px.symm, getD_set_ne false hn.mx.symm]; exact h.dp
  · refine fun _ => ⟨b, us, e1, hb, hu, ?_, fun _ => hus⟩
    unfold World.setRow
    rw [Array.getElem?_modify, if_pos rfl, hB]
    rfl
  · rw [getD_set_ne false hn.cx.symm]; exact fun _ => hlc
  · rw [getD_set_ne false hn.ax.symm]; exact fun _ => hla
end
end Go.Proofs.Ytfhdckmpodmejaa.NewC
