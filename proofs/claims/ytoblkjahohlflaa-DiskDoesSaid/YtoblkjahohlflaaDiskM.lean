/- Words for the disk in memory: what may have changed between two worlds, a map keyed by ints as a function, a sector's cells, and the plain state of a disk with what each call does to it. -/
import Derived.Test.YtoblkjahohlflaaRows
import Derived.WalkKit
import Derived.MapKept
import Derived.Maps.Own
import Derived.Maps.OwnOps
import Derived.Maps.AppendAt
import Derived.Deep.MidRow
import Derived.Laws.CopyOwn
import Derived.Lib.Hide
namespace Go.Proofs.Ytoblkjahohlflaa
open Go.RowKit Go.MapKept
set_option linter.unusedVariables false

/-! ### What may have changed -/
/-- Between w and w' only blocks of F have changed, and new ones were made. -/
structure Only (F : Nat → Prop) (w w' : World) : Prop where
  os : w'.os = w.os
  tape : w'.tape = w.tape
  output : w'.output = w.output
  size : w.heap.size ≤ w'.heap.size
  block : ∀ k, k < w.heap.size → ¬ F k → w'.heap[k]? = w.heap[k]?

theorem Only.refl (F : Nat → Prop) (w : World) : Only F w w := ⟨rfl, rfl, rfl, Nat.le_refl _, fun _ _ _ => rfl⟩
theorem Only.trans {F G : Nat → Prop} {a b c : World} (h : Only F a b) (k : Only G b c) (hG : ∀ i, G i → F i ∨ a.heap.size ≤ i) : Only F a c :=
  ⟨k.os.trans h.os, k.tape.trans h.tape, k.output.trans h.output, Nat.le_trans h.size k.size, fun i hi hF =>
    (k.block i (Nat.lt_of_lt_of_le hi h.size) (fun hg => by rcases hG i hg with h1 | h1; exact hF h1; omega)).trans (h.block i hi hF)⟩
theorem Only.drew {F : Nat → Prop} {a b : World} (h : Only F a b) : Only F a b.drew := ⟨h.os, h.tape, h.output, h.size, h.block⟩
theorem Only.alloc {F : Nat → Prop} {a b : World} (h : Only F a b) (o : Obj) : Only F a (b.alloc o) :=
  h.trans (G := fun _ => False) ⟨rfl, rfl, rfl, by simp, fun k hk _ => Below.heap_alloc _ _ _ hk⟩ (fun _ h => h.elim)
theorem Only.setCell {F : Nat → Prop} {a b : World} (h : Only F a b) {p : Addr} (hp : F p.block ∨ a.heap.size ≤ p.block) (u : Value) : Only F a (b.setCell p u) :=
  h.trans (G := fun i => i = p.block) ⟨rfl, rfl, rfl, by simp [World.setCell], fun k hk hn => Below.heap_setCell _ _ _ _ hn⟩ (fun i hi => by subst hi; exact hp)
theorem Only.setRow {F : Nat → Prop} {a b : World} (h : Only F a b) {g : Nat} (hp : F g ∨ a.heap.size ≤ g) (cs : Array Value) : Only F a (b.setRow g cs) :=
  h.trans (G := fun i => i = g) ⟨rfl, rfl, rfl, by simp, fun k hk hn => setRow_other _ _ _ _ hn⟩ (fun i hi => by subst hi; exact hp)
theorem Only.grown {F : Nat → Prop} {a b c : World} {row : Option Nat} (h : Only F a b) (hg : b.grownBy c row) (hr : ∀ k, row = some k → F k ∨ a.heap.size ≤ k) : Only F a c :=
  h.trans (G := fun i => row = some i) ⟨hg.os, hg.tape, hg.output, hg.size, fun k hk hn => hg.block k hk (fun e => hn e.symm)⟩ (fun i hi => hr i hi)
theorem Only.of_below {F : Nat → Prop} {a b c : World} (h : Only F a b) (hb : Below b.heap.size b c) : Only F a c :=
  h.trans (G := fun _ => False) ⟨hb.os, hb.tape, hb.output, hb.size, fun k hk _ => hb.block k hk⟩ (fun _ h => h.elim)
theorem Only.below {F : Nat → Prop} {a b : World} (h : Only F a b) {N : Nat} (hN : N ≤ a.heap.size) (hF : ∀ i, F i → N ≤ i) : Below N a b :=
  ⟨h.os, h.tape, h.output, h.size, fun k hk => h.block k (by omega) (fun hf => by have := hF k hf; omega)⟩
theorem Only.mono {F G : Nat → Prop} {a b : World} (h : Only F a b) (hG : ∀ i, F i → G i ∨ a.heap.size ≤ i) : Only G a b :=
  (Only.refl G a).trans h hG

/-! ### A block that is known whole -/
def Blk (w : World) (g : Nat) (t : TypeId) (cs : Array Value) : Prop := w.heap[g]? = some (.cells cs t (0, 0))
section
variable {w w' : World} {g : Nat} {t : TypeId} {cs : Array Value}
theorem lt_of_some {o : Obj} (h : w.heap[g]? = some o) : g < w.heap.size := (Array.getElem?_eq_some_iff.1 h).1
theorem Blk.lt (h : Blk w g t cs) : g < w.heap.size := lt_of_some h
theorem Blk.cell (h : Blk w g t cs) (i : Nat) : w.cell? ⟨g, i, none⟩ = cs[i]? := cell_of_row w g i cs t (0, 0) h
theorem Blk.frozen (h : Blk w g t cs) (i : Nat) : w.frozen? ⟨g, i, none⟩ = false := by
  unfold Blk at h
  simp [World.frozen?, h]
theorem Blk.new (w : World) (t : TypeId) (cs : Array Value) : Blk (w.alloc (.cells cs t)) w.heap.size t cs := heap_alloc_new w _
theorem Blk.drew (h : Blk w g t cs) : Blk w.drew g t cs := h
theorem Blk.alloc (h : Blk w g t cs) (o : Obj) : Blk (w.alloc o) g t cs := (Below.heap_alloc w o g h.lt).trans h
theorem Blk.set_ (h : Blk w g t cs) (i : Nat) (u : Value) : Blk (w.setCell ⟨g, i, none⟩ u) g t (cs.setIfInBounds i u) := by
  unfold Blk at h ⊢
  simp [World.setCell, Array.getElem?_modify, h]
theorem Blk.far (h : Blk w g t cs) {p : Addr} (hp : g ≠ p.block) (u : Value) : Blk (w.setCell p u) g t cs := (Below.heap_setCell w p u g hp).trans h
theorem Blk.grown {row : Option Nat} (h : Blk w g t cs) (hb : w.grownBy w' row) (hg : some g ≠ row) : Blk w' g t cs := (hb.block g h.lt hg).trans h
theorem Blk.only {F : Nat → Prop} (h : Blk w g t cs) (hb : Only F w w') (hg : ¬ F g) : Blk w' g t cs := (hb.block g h.lt hg).trans h
theorem Blk.ne_ {g' : Nat} {t' : TypeId} {cs' : Array Value} (h : Blk w g t cs) (h' : Blk w g' t' cs') (hne : t ≠ t') : g ≠ g' := by
  rintro rfl
  unfold Blk at h h'
  rw [h] at h'
  injection h' with h'
  injection h' with _ ht
  exact hne ht
theorem Blk.there (h : Blk w g t cs) (o n : Nat) (hn : o + n ≤ cs.size) : w.there g o n := fun j hj => by
  rw [h.cell, h.frozen]
  simp; omega
theorem Blk.range (h : Blk w g t cs) (o : Nat) (l : List Value) (hl : ∀ j v, l[j]? = some v → cs[o + j]? = some v) : w.rangeAt g o l := fun j v hv => by
  rw [h.cell]; exact hl j v hv
end

/-! ### A map keyed by ints -/
structure MapIn (es : Array MapEntry) (f : Int → Option Value) : Prop where
  at_ : ∀ (i : Nat) (e : MapEntry), es[i]? = some e → ∃ k, e.key = .int .i64 k ∧ f k = some e.val
  one : ∀ (i j : Nat) (e e' : MapEntry), es[i]? = some e → es[j]? = some e' → e.key = e'.key → i = j
  all : ∀ k v, f k = some v → ∃ (i : Nat) (e : MapEntry), es[i]? = some e ∧ e.key = .int .i64 k

def MapIs (w : World) (b : Nat) (f : Int → Option Value) : Prop := ∃ es clock, w.heap[b]? = some (.map es clock) ∧ MapIn es f

section
variable {w w' : World} {b : Nat} {f : Int → Option Value}
theorem MapIs.lt (h : MapIs w b f) : b < w.heap.size := let ⟨_, _, hb, _⟩ := h; lt_of_some hb
theorem MapIs.same (h : MapIs w b f) (hb : w'.heap[b]? = w.heap[b]?) : MapIs w' b f := let ⟨es, c, h1, h2⟩ := h; ⟨es, c, hb.trans h1, h2⟩
theorem MapIs.drew (h : MapIs w b f) : MapIs w.drew b f := h
theorem MapIs.alloc (h : MapIs w b f) (o : Obj) : MapIs (w.alloc o) b f := h.same (Below.heap_alloc w o b h.lt)
theorem MapIs.only {F : Nat → Prop} (h : MapIs w b f) (ho : Only F w w') (hF : ¬ F b) : MapIs w' b f := h.same (ho.block b h.lt hF)
theorem MapIs.grown {row : Option Nat} (h : MapIs w b f) (hb : w.grownBy w' row) (hg : some b ≠ row) : MapIs w' b f := h.same (hb.block b h.lt hg)
theorem MapIs.ne_blk {g : Nat} {t : TypeId} {cs : Array Value} (h : MapIs w b f) (hg : Blk w g t cs) : b ≠ g := by
  rintro rfl
  obtain ⟨es, c, h1, _⟩ := h
  unfold Blk at hg
  rw [h1] at hg
  cases hg
theorem MapIs.new (w : World) : MapIs (w.alloc (.map #[] 0)) w.heap.size (fun _ => none) :=
  ⟨#[], 0, heap_alloc_new w _, ⟨by simp, by simp, by simp⟩⟩
theorem MapIs.setCell (h : MapIs w b f) {p : Addr} (hp : b ≠ p.block) (u : Value) : MapIs (w.setCell p u) b f := h.same (Below.heap_setCell w p u b hp)
theorem MapIs.setRow (h : MapIs w b f) {g : Nat} (hp : b ≠ g) (cs : Array Value) : MapIs (w.setRow g cs) b f := h.same (setRow_other w g b cs hp)

theorem keyInt (k : Int) : IsKey (.int .i64) (.int .i64 k) := rfl

theorem MapIn.keys {es : Array MapEntry} (h : MapIn es f) : ∀ x ∈ es.toList, IsKey (.int .i64) x.key := fun x hx => by
  obtain ⟨i, hi⟩ := List.mem_iff_getElem?.1 hx
  obtain ⟨k, hk, _⟩ := h.at_ i x (by simpa using hi)
  rw [hk]; rfl

theorem MapIn.look {es : Array MapEntry} (h : MapIn es f) (k : Int) :
    (f k = none ∧ Instr.findNow (.int .i64) (.int .i64 k) es.toList 0 = some none) ∨ ∃ v j, f k = some v ∧ Instr.findNow (.int .i64) (.int .i64 k) es.toList 0 = some (some (j, v)) ∧ ∃ e, es[j]? = some e ∧ e.key = .int .i64 k := by
  rcases findNow_spec (keyInt k) es.toList 0 h.keys with ⟨h1, h2⟩ | ⟨j, e, h1, h2, h3⟩
  · left
    refine ⟨?_, h1⟩
    cases hf : f k with
    | none => rfl
    | some v =>
      obtain ⟨i, e, hi, he⟩ := h.all k v hf
      exact absurd he (h2 e (List.mem_iff_getElem?.2 ⟨i, by simpa using hi⟩))
  · right
    have hj : es[j]? = some e := by simpa using h2
    obtain ⟨k', hk', hf⟩ := h.at_ j e hj
    rw [h3] at hk'
    injection hk' with _ hk'
    subst hk'
    exact ⟨e.val, 0 + j, hf, h1, e, by simpa using hj, h3⟩

theorem MapIn.put {es : Array MapEntry} (h : MapIn es f) (k : Int) (v : Value) (born : Nat) (hk : f k = none) : MapIn (es.push ⟨.int .i64 k, v, born⟩) (fun j => if j = k then some v else f j) := by
  have hfar : ∀ (i : Nat) (e : MapEntry), es[i]? = some e → e.key ≠ .int .i64 k := fun i e hi he => by
    obtain ⟨k', hk', hf⟩ := h.at_ i e hi
    rw [he] at hk'; injection hk' with _ hk'; subst hk'
    rw [hk] at hf; cases hf
  refine ⟨fun i e hi => ?_, fun i j e e' hi hj he => ?_, fun j u hu => ?_⟩
  · rw [Array.getElem?_push] at hi
    split at hi
    · injection hi with hi; subst hi
      exact ⟨k, rfl, by simp⟩
    · obtain ⟨k', hk', hf⟩ := h.at_ i e hi
      refine ⟨k', hk', ?_⟩
      rw [if_neg (by rintro rfl; exact hfar i e hi hk')]; exact hf
  · rw [Array.getElem?_push] at hi hj
    split at hi <;> split at hj
    · omega
    · injection hi with hi; subst hi
      exact absurd he.symm (hfar j e' hj)
    · injection hj with hj; subst hj
      exact absurd he (hfar i e hi)
    · exact h.one i j e e' hi hj he
  · by_cases e : j = k
    · subst e
      exact ⟨es.size, ⟨.int .i64 j, v, born⟩, by simp, rfl⟩
    · rw [if_neg e] at hu
      obtain ⟨i, x, hi, hx⟩ := h.all j u hu
      exact ⟨i, x, by rw [Array.getElem?_push, if_neg (by have := (Array.getElem?_eq_some_iff.1 hi).1; omega)]; exact hi, hx⟩

theorem MapIn.over {es : Array MapEntry} (h : MapIn es f) (k : Int) (v : Value) (j : Nat) (e0 : MapEntry) (hj : es[j]? = some e0) (h0 : e0.key = .int .i64 k) :
    MapIn (es.modify j fun e => { e with key := .int .i64 k, val := v }) (fun i => if i = k then some v else f i) := by
  have hget : ∀ i : Nat, (es.modify j fun e => { e with key := .int .i64 k, val := v })[i]? = if i = j then some ⟨.int .i64 k, v, e0.born⟩ else es[i]? := fun i => by
    rw [Array.getElem?_modify]
    by_cases e : i = j
    · subst e; simp [hj]
    · rw [if_neg (Ne.symm e), if_neg e]
  have hkey : ∀ (i : Nat) (x : MapEntry), (es.modify j fun e => { e with key := .int .i64 k, val := v })[i]? = some x → ∃ y, es[i]? = some y ∧ y.key = x.key := fun i x hx => by
    rw [hget] at hx
    split at hx
    · rename_i e; subst e; injection hx with hx; subst hx
      exact ⟨e0, hj, h0⟩
    · exact ⟨x, hx, rfl⟩
  refine ⟨fun i x hi => ?_, fun i i' x x' hi hi' he => ?_, fun i u hu => ?_⟩
  · have hi2 := hi
    rw [hget] at hi
    split at hi
    · injection hi with hi; subst hi
      exact ⟨k, rfl, by simp⟩
    · rename_i hne
      obtain ⟨k', hk', hf⟩ := h.at_ i x hi
      refine ⟨k', hk', ?_⟩
      rw [if_neg]
      · exact hf
      · rintro rfl
        exact hne (h.one i j x e0 hi hj (hk'.trans h0.symm))
  · obtain ⟨y, hy, ey⟩ := hkey i x hi
    obtain ⟨y', hy', ey'⟩ := hkey i' x' hi'
    exact h.one i i' y y' hy hy' (by rw [ey, ey', he])
  · by_cases e : i = k
    · subst e
      exact ⟨j, _, by rw [hget, if_pos rfl], rfl⟩
    · rw [if_neg e] at hu
      obtain ⟨i', x, hi, hx⟩ := h.all i u hu
      refine ⟨i', x, ?_, hx⟩
      rw [hget, if_neg]
      · exact hi
      · rintro rfl
        rw [hj] at hi
        injection hi with hi
        subst hi
        rw [h0] at hx
        injection hx with _ hx
        exact e hx.symm

variable {P : Program} {t kt et : TypeId}
/-- 'm[k]', of an element or of none. -/
theorem MapIs.run_look (h : MapIs w b f) (ht : P.underlying t = some (.map kt et)) (hk : P.underlying kt = some (.int .i64)) {z : Value} (hz : (zeroValue et).run P w = .ok z w) (k : Int) (ok : Bool) :
    (Instr.lookup t (.map (some b)) (.int .i64 k) ok).run P w = .ok (if ok then .tuple #[(f k).getD z, .bool (f k).isSome] else (f k).getD z) w := by
  obtain ⟨es, c, hb, hm⟩ := h
  rcases hm.look k with ⟨hf, hn⟩ | ⟨v, j, hf, hn, _⟩
  · simp [Instr.lookup, run_underlying ht, MapKept.run_getObj_map hb, run_checkKey hk (keyInt k), run_findKey hk hn, hz, hf, Result.andThen]
  · simp [Instr.lookup, run_underlying ht, MapKept.run_getObj_map hb, run_checkKey hk (keyInt k), run_findKey hk hn, hf, Result.andThen]

/-- 'm[k] = v'. -/
theorem MapIs.run_put (h : MapIs w b f) (ht : P.underlying t = some (.map kt et)) (hk : P.underlying kt = some (.int .i64)) (k : Int) (v : Value) :
    ∃ w', (Instr.mapUpdate t (.map (some b)) (.int .i64 k) v).run P w = .ok () w' ∧ MapIs w' b (fun j => if j = k then some v else f j) ∧ w.grownBy w' (some b) := by
  obtain ⟨es, c, hb, hm⟩ := h
  rcases hm.look k with ⟨hf, hn⟩ | ⟨u, j, hf, hn, e, hj, he⟩
  · refine ⟨{ w with heap := w.heap.setIfInBounds b (.map (es.push ⟨.int .i64 k, v, c⟩) (c + 1)) }, ?_, ⟨_, _, (heap_set hb).1, hm.put k v c hf⟩, ⟨rfl, rfl, rfl, by simp, fun i _ hi => (heap_set hb).2 i (fun e => hi (by rw [e]))⟩⟩
    simp [Instr.mapUpdate, run_underlying ht, MapKept.run_getObj_map hb, run_checkKey hk (keyInt k), run_findKey hk hn, run_setObj_map _ hb, Result.andThen]
  · refine ⟨{ w with heap := w.heap.setIfInBounds b (.map (es.modify j fun e => { e with key := .int .i64 k, val := v }) c) }, ?_, ⟨_, _, (heap_set hb).1, hm.over k v j e hj he⟩, ⟨rfl, rfl, rfl, by simp, fun i _ hi => (heap_set hb).2 i (fun e => hi (by rw [e]))⟩⟩
    simp [Instr.mapUpdate, run_underlying ht, MapKept.run_getObj_map hb, run_checkKey hk (keyInt k), run_findKey hk hn, hj, he, run_keyThatStays (keyInt k), run_setObj_map _ hb, Result.andThen]
end

/-! ### The operations on a map, for the walk -/
section
variable {P : Program} {w : World} {ops : Array Oper} {rest : List Oper} {o : Oper} {a : Act} {Q : Exit → Act → World → Prop}
theorem wpList_look (hg : o.guard = none) (m x : Operand) (t : TypeId) (ok : Bool) (hop : o.op = Op.lookup t m x ok) (b : Nat) (k : Int) (v : Value) (hm : a.eval m = .map (some b)) (hx : a.eval x = .int .i64 k)
    (hrun : (Instr.lookup t (.map (some b)) (.int .i64 k) ok).run P w = .ok v w) (h : wpList P ops Q rest (a.put o.dst v) w) : wpList P ops Q (o :: rest) a w := by
  refine wpList_plain hg fun K' hK' => ?_
  unfold Oper.wp
  simp [execOp, hop, hm, hx, hrun, Result.andThen]
  exact hK' _ _ h
theorem wpList_put (hg : o.guard = none) (m x y : Operand) (t : TypeId) (hop : o.op = Op.mapUpdate t m x y) (b : Nat) (k : Int) (v : Value) (hm : a.eval m = .map (some b)) (hx : a.eval x = .int .i64 k) (hy : a.eval y = v)
    {kt et : TypeId} {f : Int → Option Value} (hf : MapIs w b f) (ht : P.underlying t = some (.map kt et)) (hk : P.underlying kt = some (.int .i64))
    (h : ∀ w', MapIs w' b (fun j => if j = k then some v else f j) → w.grownBy w' (some b) → wpList P ops Q rest (a.put o.dst undef) w') : wpList P ops Q (o :: rest) a w := by
  refine wpList_plain hg fun K' hK' => ?_
  obtain ⟨w', hrun, h1, h2⟩ := hf.run_put ht hk k v
  unfold Oper.wp
  simp [execOp, hop, hm, hx, hy, hrun, Result.andThen]
  exact hK' _ _ (h w' h1 h2)
end

end Go.Proofs.Ytoblkjahohlflaa
