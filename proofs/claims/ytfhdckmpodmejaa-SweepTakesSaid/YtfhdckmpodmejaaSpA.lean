/- Things that a call has made, each in blocks of its own: a call on one of them leaves the others, and all that was there, as they were; blocks of a call's own; rows of structs that are appended to. -/
import Derived.Test.YtfhdckmpodmejaaChecked
import Derived.WalkKit
import Derived.MapKept
import Derived.Deep.MidRow
import Derived.Deep.WholeRow
import Derived.Laws.CopyOwn
import Derived.Lib.Hide
import Derived.Deep.OwnRows
import Derived.Laws.OwnMore
import Derived.RegionTactic
import Derived.Maps.AppendAt
import Derived.StillTailTactics
import Derived.Deep.RegionLaw
import Derived.Lib.BufferWrite
namespace Go.Proofs.Ytfhdckmpodmejaa.Sp
open Go.RowKit Go.MapKept Go.Lib
set_option linter.unusedVariables false
set_option maxRecDepth 100000

structure Only (F : Nat → Prop) (w w' : World) : Prop where
  os : w'.os = w.os
  tape : w'.tape = w.tape
  output : w'.output = w.output
  size : w.heap.size ≤ w'.heap.size
  block : ∀ k, k < w.heap.size → ¬ F k → w'.heap[k]? = w.heap[k]?

theorem Only.refl (F : Nat → Prop) (w : World) : Only F w w := ⟨rfl, rfl, rfl, Nat.le_refl _, fun _ _ _ => rfl⟩
theorem Only.trans {F G : Nat → Prop} {a b c : World} (h : Only F a b) (k : Only G b c) (hG : ∀ i, G i → F i ∨ a.heap.size ≤ i) : Only F a c :=
  ⟨k.os.trans h.os, k.tape.trans h.tape, k.output.trans h.output, Nat.le_trans h.size k.size, fun i hi hF =>
    (k.block i (Nat.lt_of_lt_of_le hi h.size) (fun hg => by rcases hG i hg with h1 | h1; exact hF h1; omega)).trans (h.block i hi hF)⟩
theorem Only.drew {F : Nat → Prop} {a b : World} (h : Only F a b) : Only F a b.drew := ⟨h.os, h.tape, h.output, h.size, h.block⟩
theorem Only.alloc {F : Nat → Prop} {a b : World} (h : Only F a b) (o : Obj) : Only F a (b.alloc o) :=
  h.trans (G := fun _ => False) ⟨rfl, rfl, rfl, by simp, fun k hk _ => Below.heap_alloc _ _ _ hk⟩ (fun _ h => h.elim)
theorem Only.setCell {F : Nat → Prop} {a b : World} (h : Only F a b) {p : Addr} (hp : F p.block ∨ a.heap.size ≤ p.block) (u : Value) : Only F a (b.setCell p u) :=
  h.trans (G := fun i => i = p.block) ⟨rfl, rfl, rfl, by simp [World.setCell], fun k hk hn => Below.heap_setCell _ _ _ _ hn⟩ (fun i hi => by subst hi; exact hp)
theorem Only.setRow {F : Nat → Prop} {a b : World} (h : Only F a b) {g : Nat} (hp : F g ∨ a.heap.size ≤ g) (cs : Array Value) : Only F a (b.setRow g cs) :=
  h.trans (G := fun i => i = g) ⟨rfl, rfl, rfl, by simp, fun k hk hn => setRow_other _ _ _ _ hn⟩ (fun i hi => by subst hi; exact hp)
theorem Only.grown {F : Nat → Prop} {a b c : World} {row : Option Nat} (h : Only F a b) (hg : b.grownBy c row) (hr : ∀ k, row = some k → F k ∨ a.heap.size ≤ k) : Only F a c :=
  h.trans (G := fun i => row = some i) ⟨hg.os, hg.tape, hg.output, hg.size, fun k hk hn => hg.block k hk (fun e => hn e.symm)⟩ (fun i hi => hr i hi)
theorem Only.of_below {F : Nat → Prop} {a b c : World} (h : Only F a b) (hb : Below b.heap.size b c) : Only F a c :=
  h.trans (G := fun _ => False) ⟨hb.os, hb.tape, hb.output, hb.size, fun k hk _ => hb.block k hk⟩ (fun _ h => h.elim)
theorem Only.below {F : Nat → Prop} {a b : World} (h : Only F a b) {N : Nat} (hN : N ≤ a.heap.size) (hF : ∀ i, F i → N ≤ i) : Below N a b :=
  ⟨h.os, h.tape, h.output, h.size, fun k hk => h.block k (by omega) (fun hf => by have := hF k hf; omega)⟩
theorem Only.mono {F G : Nat → Prop} {a b : World} (h : Only F a b) (hG : ∀ i, F i → G i ∨ a.heap.size ≤ i) : Only G a b :=
  (Only.refl G a).trans h hG

def Grew (w : World) (F F' : Nat → Prop) : Prop := ∀ b, F' b → F b ∨ w.heap.size ≤ b

theorem Grew.refl (w : World) (F : Nat → Prop) : Grew w F F := fun _ h => .inl h

theorem Grew.trans {w w1 : World} {F G H : Nat → Prop} (h : Grew w F G) (k : Grew w1 G H) (hs : w.heap.size ≤ w1.heap.size) : Grew w F H := fun b hb => by
  rcases k b hb with h1 | h1
  · exact h b h1
  · exact .inr (by omega)


section
variable {w w' : World} {v : Value}
theorem own_same {e : TypeId} {base size n : Nat} {xs : List Value} (ho : w.ownsRow base e size v n xs) (hs : ∀ g, v.ownBlock = some g → w'.heap[g]? = w.heap[g]?) : w'.ownsRow base e size v n xs := by
  refine ⟨ho.1, ?_⟩
  rcases ho.2 with hn | ⟨g, cap, cur, rfl, hb, hgg, rest⟩
  · exact .inl hn
  · exact .inr ⟨g, cap, cur, rfl, hb, by rw [hs g rfl]; exact hgg, rest⟩
end

/-- A block's cells, none of them frozen. -/
def Blk (w : World) (g : Nat) (t : TypeId) (cs : Array Value) : Prop := w.heap[g]? = some (.cells cs t (0, 0))
section
variable {w w' : World} {g : Nat} {t : TypeId} {cs : Array Value}
theorem Blk.lt (h : Blk w g t cs) : g < w.heap.size := (Array.getElem?_eq_some_iff.1 h).1
theorem Blk.cell (h : Blk w g t cs) (i : Nat) : w.cell? ⟨g, i, none⟩ = cs[i]? := cell_of_row w g i cs t (0, 0) h
theorem Blk.frozen (h : Blk w g t cs) (i : Nat) : w.frozen? ⟨g, i, none⟩ = false := by
  unfold Blk at h
  simp [World.frozen?, h]
theorem Blk.new (w : World) (t : TypeId) (cs : Array Value) : Blk (w.alloc (.cells cs t)) w.heap.size t cs := heap_alloc_last w _
theorem Blk.at_ {b : Nat} (w : World) (t : TypeId) (cs : Array Value) (hb : w.heap.size = b) : Blk (w.alloc (.cells cs t)) b t cs := hb ▸ heap_alloc_last w _
theorem Blk.later (h : Blk w g t cs) (hb : Below w.heap.size w w') : Blk w' g t cs := (hb.block g h.lt).trans h
theorem Blk.row (h : Blk w g t cs) (ds : Array Value) : Blk (w.setRow g ds) g t ds := by
  unfold Blk at h ⊢
  unfold World.setRow
  rw [Array.getElem?_modify, if_pos rfl, h]
  rfl
theorem Blk.far (h : Blk w g t cs) {g' : Nat} (hg : g' ≠ g) (ds : Array Value) : Blk (w.setRow g' ds) g t cs := by
  unfold Blk at h ⊢
  unfold World.setRow
  rw [Array.getElem?_modify, if_neg hg, h]

theorem row_size (w : World) (g : Nat) (ds : Array Value) : (w.setRow g ds).heap.size = w.heap.size := by unfold World.setRow; simp
theorem below_row {n : Nat} {w0 : World} (hb : Below n w0 w) (hg : n ≤ g) (ds : Array Value) : Below n w0 (w.setRow g ds) :=
  ⟨hb.os, hb.tape, hb.output, by rw [row_size]; exact hb.size, fun b hbn => by
    unfold World.setRow
    rw [Array.getElem?_modify, if_neg (by omega)]
    exact hb.block b hbn⟩
end

section
variable {w : World}
theorem own_base {base base' : Nat} {e : TypeId} {size n : Nat} {v : Value} {xs : List Value} (ho : w.ownsRow base e size v n xs) (h : base' ≤ base) : w.ownsRow base' e size v n xs := by
  refine ⟨ho.1, ?_⟩
  rcases ho.2 with h0 | ⟨g, cap, cur, he, hbg, hg, hc⟩
  · exact .inl h0
  · exact .inr ⟨g, cap, cur, he, by omega, hg, hc⟩
end

theorem info_parts {P : Program} {e : TypeId} {z : Value} {n b : Nat} (h : (P.info? e).map (fun i => (i.zero, i.size, i.bytes)) = some (some z, n, b)) : ∃ i, P.info? e = some i ∧ i.zero = some z ∧ i.size = n ∧ i.bytes = b := by
  obtain ⟨i, hi, hzz⟩ := Option.map_eq_some_iff.1 h
  simp only [Prod.mk.injEq] at hzz
  exact ⟨i, hi, hzz.1, hzz.2.1, hzz.2.2⟩

/-- A thing in memory: what it means that it lies in the blocks G. -/
structure Item where
  holds : World → (Nat → Prop) → Prop
  stable : ∀ {w w' : World} {G : Nat → Prop}, holds w G → (∀ b, G b → w'.heap[b]? = w.heap[b]?) → w.heap.size ≤ w'.heap.size → holds w' G
  lt : ∀ {w : World} {G : Nat → Prop}, holds w G → ∀ b, G b → b < w.heap.size

/-- The things lie apart from each other, in blocks newer than W; what W had is as it was. -/
def Sep (W w : World) (items : List Item) : Prop :=
  Below W.heap.size W w ∧ ∃ Gs : List (Nat → Prop), Gs.length = items.length ∧ (∀ (i : Nat) (it : Item) (G : Nat → Prop), items[i]? = some it → Gs[i]? = some G → it.holds w G) ∧
    (∀ (i j : Nat) (G H : Nat → Prop), i ≠ j → Gs[i]? = some G → Gs[j]? = some H → ∀ b, G b → ¬ H b) ∧ ∀ (i : Nat) (G : Nat → Prop), Gs[i]? = some G → ∀ b, G b → W.heap.size ≤ b

section
variable {W w w' : World} {items : List Item}
theorem Sep.below (h : Sep W w items) : Below W.heap.size W w := h.1
theorem Sep.later (h : Sep W w items) (hb : Below w.heap.size w w') : Sep W w' items := by
  obtain ⟨hW, Gs, hl, hh, hd, hN⟩ := h
  refine ⟨hW.trans (hb.mono hW.size), Gs, hl, fun i it G hi hG => ?_, hd, hN⟩
  have := hh i it G hi hG
  exact it.stable this (fun b hb' => hb.block b (it.lt this b hb')) hb.size
theorem Sep.drew (h : Sep W w items) : Sep W w.drew items := h.later (Below.refl _ _).drew
theorem Sep.alloc (h : Sep W w items) (o : Obj) : Sep W (w.alloc o) items := h.later ((Below.refl _ _).alloc (Nat.le_refl _) o)
theorem Sep.nil (hW : Below W.heap.size W w) : Sep W w [] := ⟨hW, [], rfl, fun i it G hi _ => by simp at hi, fun i j G H _ hi _ => by simp at hi, fun i G hi => by simp at hi⟩

/-- One thing at hand: what becomes of the rest where only its own blocks change. -/
theorem Sep.at_ (h : Sep W w items) (k : Nat) {it : Item} (hk : items[k]? = some it) :
    ∃ G : Nat → Prop, it.holds w G ∧ (∀ b, G b → W.heap.size ≤ b) ∧ (∀ (j : Nat) (it' : Item), items[j]? = some it' → j ≠ k → ∃ H : Nat → Prop, it'.holds w H ∧ ∀ b, H b → ¬ G b) ∧
      ∀ (w' : World) (G' : Nat → Prop) (it' : Item), it'.holds w' G' → Grew w G G' → Only G w w' → Sep W w' (items.set k it') := by
  obtain ⟨hW, Gs, hl, hh, hd, hN⟩ := h
  have hkl : k < Gs.length := by rw [hl]; exact (List.getElem?_eq_some_iff.1 hk).1
  have hkG : Gs[k]? = some Gs[k] := List.getElem?_eq_getElem hkl
  generalize Gs[k] = G at hkG
  have hG := hh k it G hk hkG
  refine ⟨G, hG, hN k G hkG, fun j it' hj hjk => ?_, fun w' G' it' hG' hgr ho => ?_⟩
  · have hjl : j < Gs.length := by rw [hl]; exact (List.getElem?_eq_some_iff.1 hj).1
    have hjG : Gs[j]? = some Gs[j] := List.getElem?_eq_getElem hjl
    exact ⟨Gs[j], hh j it' _ hj hjG, hd j k _ _ hjk hjG hkG⟩
  · have hset : ∀ (i : Nat) (H : Nat → Prop), (Gs.set k G')[i]? = some H → (i = k ∧ H = G') ∨ (i ≠ k ∧ Gs[i]? = some H) := fun i H hi => by
      rw [List.getElem?_set] at hi
      by_cases e : k = i
      · subst e
        rw [if_pos rfl, if_pos hkl] at hi
        injection hi with hi
        exact .inl ⟨rfl, hi.symm⟩
      · rw [if_neg e] at hi
        exact .inr ⟨fun h => e h.symm, hi⟩
    have hnew : ∀ (i : Nat) (H : Nat → Prop), Gs[i]? = some H → i ≠ k → ∀ b, H b → ¬ G' b := fun i H hi hne b hb hb' => by
      rcases hgr b hb' with h1 | h1
      · exact hd i k H G hne hi hkG b hb h1
      · have hil : i < items.length := by rw [← hl]; exact (List.getElem?_eq_some_iff.1 hi).1
        have := (items[i]).lt (hh i _ H (List.getElem?_eq_getElem hil) hi) b hb
        omega
    refine ⟨hW.trans (ho.below hW.size (hN k G hkG)), Gs.set k G', by simp [hl], fun i it2 H hi hH => ?_, fun i j H H' hij hi hj b hb hb' => ?_, fun i H hi b hb => ?_⟩
    · rcases hset i H hH with ⟨rfl, rfl⟩ | ⟨hne, hH'⟩
      · rw [List.getElem?_set_self (List.getElem?_eq_some_iff.1 hk).1] at hi
        injection hi with hi
        subst hi
        exact hG'
      · rw [List.getElem?_set_ne (Ne.symm hne)] at hi
        have h2 := hh i it2 H hi hH'
        exact it2.stable h2 (fun b hb => ho.block b (it2.lt h2 b hb) (hd i k H G hne hH' hkG b hb)) ho.size
    · rcases hset i H hi with ⟨rfl, rfl⟩ | ⟨hne, hH⟩ <;> rcases hset j H' hj with ⟨rfl, rfl⟩ | ⟨hne', hH'⟩
      · exact hij rfl
      · exact hnew j H' hH' hne' b hb' hb
      · exact hnew i H hH hne b hb hb'
      · exact hd i j H H' hij hH hH' b hb hb'
    · rcases hset i H hi with ⟨rfl, rfl⟩ | ⟨hne, hH⟩
      · rcases hgr b hb with h1 | h1
        · exact hN _ G hkG b h1
        · exact Nat.le_trans hW.size h1
      · exact hN i H hH b hb

/-- A new thing, in new blocks. -/
theorem Sep.new (h : Sep W w items) (it : Item) {G : Nat → Prop} (hG : it.holds w' G) (hn : ∀ b, G b → w.heap.size ≤ b) (hb : Below w.heap.size w w') : Sep W w' (items ++ [it]) := by
  obtain ⟨hW, Gs, hl, hh, hd, hN⟩ := h
  have hlt : ∀ (i : Nat) (H : Nat → Prop), Gs[i]? = some H → ∀ b, H b → b < w.heap.size := fun i H hi b hb => by
    have hil : i < items.length := by rw [← hl]; exact (List.getElem?_eq_some_iff.1 hi).1
    exact (items[i]).lt (hh i _ H (List.getElem?_eq_getElem hil) hi) b hb
  have hcase : ∀ (i : Nat) (H : Nat → Prop), (Gs ++ [G])[i]? = some H → (i = Gs.length ∧ H = G) ∨ (i < Gs.length ∧ Gs[i]? = some H) := fun i H hi => by
    rcases Nat.lt_or_ge i Gs.length with h1 | h1
    · rw [List.getElem?_append_left h1] at hi
      exact .inr ⟨h1, hi⟩
    · rw [List.getElem?_append_right h1] at hi
      have hi0 : i - Gs.length = 0 := by
        rcases Nat.eq_zero_or_pos (i - Gs.length) with e | e
        · exact e
        · rw [List.getElem?_eq_none (by simp; omega)] at hi; cases hi
      rw [hi0] at hi
      exact .inl ⟨by omega, by simpa using hi.symm⟩
  refine ⟨hW.trans (hb.mono hW.size), Gs ++ [G], by simp [hl], fun i it2 H hi hH => ?_, fun i j H H' hij hi hj b hbb hb' => ?_, fun i H hi b hbb => ?_⟩
  · rcases hcase i H hH with ⟨rfl, rfl⟩ | ⟨h1, h2⟩
    · rw [hl, List.getElem?_append_right (Nat.le_refl _), Nat.sub_self] at hi
      have : it = it2 := by simpa using hi
      subst this
      exact hG
    · rw [List.getElem?_append_left (by omega)] at hi
      have h3 := hh i it2 H hi h2
      exact it2.stable h3 (fun b hb' => hb.block b (it2.lt h3 b hb')) hb.size
  · rcases hcase i H hi with ⟨e1, rfl⟩ | ⟨h1, h2⟩ <;> rcases hcase j H' hj with ⟨e2, rfl⟩ | ⟨h3, h4⟩
    · omega
    · have := hn b hbb; have := hlt j H' h4 b hb'; omega
    · have := hn b hb'; have := hlt i H h2 b hbb; omega
    · exact hd i j H H' hij h2 h4 b hbb hb'
  · rcases hcase i H hi with ⟨_, rfl⟩ | ⟨_, h2⟩
    · exact Nat.le_trans hW.size (hn b hbb)
    · exact hN i H h2 b hbb
end

def locI (l : List (Nat × TypeId × Array Value)) : Item :=
  ⟨fun w G => (∀ x ∈ l, Blk w x.1 x.2.1 x.2.2) ∧ ∀ b, G b ↔ ∃ x ∈ l, x.1 = b, fun ⟨h, hG⟩ hs _ => ⟨fun x hx => (hs x.1 ((hG x.1).2 ⟨x, hx, rfl⟩)).trans (h x hx), hG⟩,
    fun ⟨h, hG⟩ b hb => by obtain ⟨x, hx, e⟩ := (hG b).1 hb; rw [← e]; exact (h x hx).lt⟩
section
variable {W w w' : World} {items : List Item} {k : Nat} {l l' : List (Nat × TypeId × Array Value)}
/-- New blocks, since w. -/
theorem loc_new (h : Sep W w items) (hb : Below w.heap.size w w') (hl : ∀ x ∈ l, Blk w' x.1 x.2.1 x.2.2) (hn : ∀ x ∈ l, w.heap.size ≤ x.1) : Sep W w' (items ++ [locI l]) :=
  h.new (locI l) (G := fun b => ∃ x ∈ l, x.1 = b) ⟨hl, fun _ => Iff.rfl⟩ (fun b hb' => by obtain ⟨x, hx, e⟩ := hb'; rw [← e]; exact hn x hx) hb
theorem loc_at (h : Sep W w items) (hk : items[k]? = some (locI l)) : ∀ x ∈ l, Blk w x.1 x.2.1 x.2.2 := by
  obtain ⟨G, ⟨hl, _⟩, _⟩ := h.at_ k hk
  exact hl
/-- Nothing but these is written. -/
theorem loc_put (h : Sep W w items) (hk : items[k]? = some (locI l)) (ho : Only (fun b => ∃ x ∈ l, x.1 = b) w w') (hl : ∀ x ∈ l', Blk w' x.1 x.2.1 x.2.2) (hs : ∀ x ∈ l', ∃ y ∈ l, y.1 = x.1) : Sep W w' (items.set k (locI l')) := by
  obtain ⟨G, ⟨_, hG⟩, _, _, put⟩ := h.at_ k hk
  refine put w' (fun b => ∃ x ∈ l', x.1 = b) _ ⟨hl, fun _ => Iff.rfl⟩ (fun b hb => ?_) (ho.mono fun b hb => .inl ((hG b).2 hb))
  obtain ⟨x, hx, e⟩ := hb
  obtain ⟨y, hy, e2⟩ := hs x hx
  exact .inl ((hG b).2 ⟨y, hy, e2.trans e⟩)
/-- One of them is written whole. -/
theorem loc_row (h : Sep W w items) (hk : items[k]? = some (locI l)) (b : Nat) (hb : ∃ x ∈ l, x.1 = b) (cs : Array Value) (hl : ∀ x ∈ l', Blk (w.setRow b cs) x.1 x.2.1 x.2.2) (hs : ∀ x ∈ l', ∃ y ∈ l, y.1 = x.1) : Sep W (w.setRow b cs) (items.set k (locI l')) :=
  loc_put h hk ((Only.refl _ w).setRow (.inl hb) cs) hl hs
/-- They are forgotten. -/
theorem loc_drop {a : Item} (h : Sep W w (items ++ [a])) : Sep W w items := by
  obtain ⟨hW, Gs, hl, hh, hd, hN⟩ := h
  have hlen : Gs.length = items.length + 1 := by rw [hl]; simp
  have hg : ∀ (i : Nat) (G : Nat → Prop), (Gs.take items.length)[i]? = some G → i < items.length ∧ Gs[i]? = some G := fun i G hi => by
    rw [List.getElem?_take] at hi
    split at hi
    · exact ⟨by assumption, hi⟩
    · cases hi
  refine ⟨hW, Gs.take items.length, by rw [List.length_take]; omega, fun i it G hi hG => ?_, fun i j G H hij hi hj => hd i j G H hij (hg i G hi).2 (hg j H hj).2, fun i G hi => hN i G (hg i G hi).2⟩
  obtain ⟨hlt, hG'⟩ := hg i G hG
  exact hh i it G (by rw [List.getElem?_append_left hlt]; exact hi) hG'
theorem app_at {a b : Item} (h : items[k]? = some a) : (items ++ [b])[k]? = some a := by
  rw [List.getElem?_append_left (List.getElem?_eq_some_iff.1 h).1]; exact h
theorem app_last {b : Item} : (items ++ [b])[items.length]? = some b := by simp
theorem app_set {a b c : Item} (h : items[k]? = some a) : (items ++ [b]).set k c = items.set k c ++ [b] := by
  rw [List.set_append, if_pos (List.getElem?_eq_some_iff.1 h).1]
theorem app_set_last {b c : Item} : (items ++ [b]).set items.length c = items ++ [c] := by
  rw [List.set_append, if_neg (by omega)]; simp
end

theorem set_row {w : World} {g : Nat} {t : TypeId} {cs : Array Value} (h : Blk w g t cs) (i : Nat) (u : Value) : w.setCell ⟨g, i, none⟩ u = w.setRow g (cs.setIfInBounds i u) := by
  unfold Blk at h
  unfold World.setCell World.setRow
  congr 1
  apply Array.ext
  · simp
  · intro x h1 h2
    simp only [Array.getElem_modify]
    by_cases e : g = x
    · subst e
      obtain ⟨hlt, hx⟩ := Array.getElem?_eq_some_iff.1 h
      simp [hx]
    · simp [e]

section
variable {W w w' w1 : World} {items items' : List Item} {k : Nat} {it : Item}
/-- Another thing, in new blocks, in one's place. -/
theorem sep_swap (h : Sep W w items) (hk : items[k]? = some it) (it' : Item) {G : Nat → Prop} (hG : it'.holds w' G) (hn : ∀ b, G b → w.heap.size ≤ b) (hb : Below w.heap.size w w') : Sep W w' (items.set k it') := by
  obtain ⟨G0, _, _, _, put⟩ := h.at_ k hk
  exact put w' G it' hG (fun b hb' => .inr (hn b hb')) ((Only.refl _ w).of_below hb)
/-- What a later call has made, behind what was there. -/
theorem sep_join (h : Sep W w items) (h' : Sep w w' items') : Sep W w' (items ++ items') := by
  obtain ⟨hb, Gs, hl, hh, hd, hN⟩ := h'
  have h1 := h.later hb
  obtain ⟨hW, Hs, kl, kh, kd, kN⟩ := h1
  obtain ⟨hW0, Hs0, kl0, kh0, kd0, kN0⟩ := h
  have hlt : ∀ (i : Nat) (H : Nat → Prop), Hs0[i]? = some H → ∀ b, H b → b < w.heap.size := fun i H hi b hb => by
    have hil : i < items.length := by rw [← kl0]; exact (List.getElem?_eq_some_iff.1 hi).1
    exact (items[i]).lt (kh0 i _ H (List.getElem?_eq_getElem hil) hi) b hb
  have hcase : ∀ (i : Nat) (H : Nat → Prop), (Hs0 ++ Gs)[i]? = some H → (i < Hs0.length ∧ Hs0[i]? = some H) ∨ (Hs0.length ≤ i ∧ Gs[i - Hs0.length]? = some H) := fun i H hi => by
    rcases Nat.lt_or_ge i Hs0.length with h1 | h1
    · rw [List.getElem?_append_left h1] at hi
      exact .inl ⟨h1, hi⟩
    · rw [List.getElem?_append_right h1] at hi
      exact .inr ⟨h1, hi⟩
  refine ⟨hW, Hs0 ++ Gs, by simp [hl, kl0], fun i it2 H hi hH => ?_, fun i j H H' hij hi hj b hbb hb' => ?_, fun i H hi b hbb => ?_⟩
  · rcases hcase i H hH with ⟨h1, h2⟩ | ⟨h1, h2⟩
    · rw [List.getElem?_append_left (by omega)] at hi
      have h3 := kh0 i it2 H hi h2
      exact it2.stable h3 (fun b hb' => hb.block b (it2.lt h3 b hb')) hb.size
    · rw [List.getElem?_append_right (by omega)] at hi
      exact hh _ it2 H (by rw [kl0]; exact hi) h2
  · rcases hcase i H hi with ⟨h1, h2⟩ | ⟨h1, h2⟩ <;> rcases hcase j H' hj with ⟨h3, h4⟩ | ⟨h3, h4⟩
    · exact kd0 i j H H' hij h2 h4 b hbb hb'
    · have := hlt i H h2 b hbb; have := hN _ H' h4 b hb'; omega
    · have := hlt j H' h4 b hb'; have := hN _ H h2 b hbb; omega
    · exact hd _ _ H H' (by omega) h2 h4 b hbb hb'
  · rcases hcase i H hi with ⟨h1, h2⟩ | ⟨h1, h2⟩
    · exact kN0 i H h2 b hbb
    · exact Nat.le_trans hW0.size (hN _ H h2 b hbb)
/-- The first one is forgotten. -/
theorem sep_tail {a : Item} (h : Sep W w (a :: items)) : Sep W w items := by
  obtain ⟨hW, Gs, hl, hh, hd, hN⟩ := h
  cases Gs with
  | nil => simp at hl
  | cons G Gs =>
    exact ⟨hW, Gs, by simpa using hl, fun i it G hi hG => hh (i + 1) it G (by simpa using hi) (by simpa using hG), fun i j G H hij hi hj => hd (i + 1) (j + 1) G H (by omega) (by simpa using hi) (by simpa using hj), fun i G hi => hN (i + 1) G (by simpa using hi)⟩
/-- A cell of a block of one's own is written. -/
theorem loc_cell {b : Nat} {t : TypeId} {cs : Array Value} (h : Sep W w items) (hk : items[k]? = some (locI [(b, t, cs)])) (i : Nat) (u : Value) : Sep W (w.setCell ⟨b, i, none⟩ u) (items.set k (locI [(b, t, cs.setIfInBounds i u)])) := by
  have hB := loc_at h hk _ (List.mem_cons_self ..)
  rw [set_row hB]
  refine loc_row h hk b ⟨_, List.mem_cons_self .., rfl⟩ _ ?_ ?_
  · intro x hx
    rcases List.mem_cons.1 hx with rfl | hx
    · exact hB.row _
    · cases hx
  · intro x hx
    rcases List.mem_cons.1 hx with rfl | hx
    · exact ⟨_, List.mem_cons_self .., rfl⟩
    · cases hx
/-- It is written whole. -/
theorem loc_whole {b : Nat} {t : TypeId} {cs : Array Value} (h : Sep W w items) (hk : items[k]? = some (locI [(b, t, cs)])) (us : Array Value) : Sep W (w.setRow b us) (items.set k (locI [(b, t, us)])) := by
  have hB := loc_at h hk _ (List.mem_cons_self ..)
  refine loc_row h hk b ⟨_, List.mem_cons_self .., rfl⟩ _ ?_ ?_
  · intro x hx
    rcases List.mem_cons.1 hx with rfl | hx
    · exact hB.row _
    · cases hx
  · intro x hx
    rcases List.mem_cons.1 hx with rfl | hx
    · exact ⟨_, List.mem_cons_self .., rfl⟩
    · cases hx
/-- A new block of one's own. -/
theorem loc_alloc (h : Sep W w items) (t : TypeId) (cs : Array Value) : Sep W (w.alloc (.cells cs t)) (items ++ [locI [(w.heap.size, t, cs)]]) := by
  refine loc_new h ((Below.refl _ _).alloc (Nat.le_refl _) _) ?_ ?_
  · intro x hx
    rcases List.mem_cons.1 hx with rfl | hx
    · exact Blk.new w t cs
    · cases hx
  · intro x hx
    rcases List.mem_cons.1 hx with rfl | hx
    · exact Nat.le_refl _
    · cases hx
theorem loc_blk {b : Nat} {t : TypeId} {cs : Array Value} (h : Sep W w items) (hk : items[k]? = some (locI [(b, t, cs)])) : Blk w b t cs := loc_at h hk _ (List.mem_cons_self ..)
end
theorem flat_len {α : Type} (f : α → List Value) (c : Nat) (hf : ∀ x, (f x).length = c) : ∀ L : List α, (L.flatMap f).length = L.length * c
  | [] => by simp
  | x :: L => by
    rw [List.flatMap_cons, List.length_append, hf, flat_len f c hf L, List.length_cons, Nat.add_mul, Nat.one_mul, Nat.add_comm]
theorem flat_get {α : Type} (f : α → List Value) (c : Nat) (hf : ∀ x, (f x).length = c) : ∀ (L : List α) (j : Nat) (x : α) (k : Nat), L[j]? = some x → k < c → (L.flatMap f)[j * c + k]? = (f x)[k]?
  | [], j, x, k, h, _ => by simp at h
  | y :: L, 0, x, k, h, hk => by
    have e : y = x := by simpa using h
    subst e
    rw [List.flatMap_cons, Nat.zero_mul, Nat.zero_add, List.getElem?_append_left (by rw [hf]; exact hk)]
  | y :: L, j + 1, x, k, h, hk => by
    have h' : L[j]? = some x := by simpa using h
    rw [List.flatMap_cons, List.getElem?_append_right (by rw [hf, Nat.add_mul]; omega), hf, show (j + 1) * c + k - c = j * c + k by rw [Nat.add_mul]; omega]
    exact flat_get f c hf L j x k h' hk

/-! ### Rows of structs -/
def rowS (e : TypeId) (sz : Nat) (v : Value) (n : Nat) (xs : List Value) : Item := ⟨fun w G => w.ownsRow 0 e sz v n xs ∧ ∀ b, G b ↔ v.ownBlock = some b, fun ⟨h, hG⟩ hs hz => ⟨own_same h (fun g hg => hs g ((hG g).2 hg)), hG⟩, fun ⟨h, hG⟩ b hb => (h.lt b ((hG b).1 hb)).2⟩
section
variable {W w : World} {items : List Item}
theorem rows_lit (h : Sep W w items) (t : TypeId) (sz : Nat) : Sep W (w.alloc (.cells #[] t)) (items ++ [rowS t sz (.slice (some ⟨w.heap.size, 0, none⟩) 0 0) 0 []]) := by
  refine h.new _ (G := fun b => b = w.heap.size) ⟨World.ownsRow_lit w #[] 0 (Nat.zero_le _) (Nat.zero_le _) (by simp), fun b => ?_⟩ (fun b hb => by omega) ((Below.refl _ _).alloc (Nat.le_refl _) _)
  simp [Value.ownBlock, eq_comm]
/-- No row yet. -/
theorem rows_nil (h : Sep W w items) (t : TypeId) (sz : Nat) : Sep W w (items ++ [rowS t sz (.slice none 0 0) 0 []]) := by
  refine h.new _ (G := fun _ => False) ⟨⟨by simp, .inl ⟨rfl, rfl⟩⟩, fun b => ?_⟩ (fun b hb => hb.elim) (Below.refl _ _)
  simp [Value.ownBlock]
theorem rows_slice (h : Sep W w items) {k : Nat} {t : TypeId} {sz : Nat} {v : Value} {n : Nat} {xs : List Value} (hk : items[k]? = some (rowS t sz v n xs)) : ∃ A p, v = .slice A n p := by
  obtain ⟨G, ⟨hrow, _⟩, _⟩ := h.at_ k hk
  rcases hrow.2 with ⟨rfl, rfl⟩ | ⟨g, cap, cur, rfl, _⟩
  · exact ⟨_, _, rfl⟩
  · exact ⟨_, _, rfl⟩
theorem rows_cell (h : Sep W w items) {k : Nat} {t : TypeId} {sz : Nat} {A : Option Addr} {p n : Nat} {xs : List Value} (hk : items[k]? = some (rowS t sz (.slice A n p) n xs)) (hn : 0 < n) : ∃ g, A = some ⟨g, 0, none⟩ ∧ ∀ j, j < n * sz → w.cell? ⟨g, j, none⟩ = xs[j]? := by
  obtain ⟨G, ⟨hrow, _⟩, _⟩ := h.at_ k hk
  rcases hrow.2 with ⟨_, rfl⟩ | ⟨g, cap, cur, e, _, hg, _, _, _, hx⟩
  · omega
  · injection e with e1 e2 e3
    refine ⟨g, e1, fun j hj => ?_⟩
    rw [← hx, List.getElem?_take_of_lt hj, cell_of_row w g j cur t (0, 0) hg]
    simp
/-- 'x = append(x, s)', s a struct. -/
theorem wp_append_s {ops : Array Oper} {rest : List Oper} {o : Oper} {a : Act} {w0 : World} {Q : Exit → Act → World → Prop} {n : Nat} {v : Value} {xs cs : List Value} {e t : TypeId} {sz bytes : Nat} {z : Value} (hinfo : (Try.prog.info? e).map (fun i => (i.zero, i.size, i.bytes)) = some (some z, sz, bytes)) (hzs : z.cells.size = sz) (hsz : 0 < sz) (hby : bytes ≤ 1000)
    (ht : Try.prog.underlying t = some (.slice e)) (hgd : o.guard = none) (sx xx : Operand)
    (ho : o.op = .call { callee := .builtin .append, args := #[sx, xx], argTypes := #[t, t] }) (hs : a.eval sx = v) (hx : a.eval xx = .slice (some ⟨w0.heap.size, 0, none⟩) 1 1) (h0 : Sep W w0 items) (k : Nat) (hk : items[k]? = some (rowS e sz v n xs)) (hn : n < 1000) (hl : cs.length = sz) (h1c : ∀ u ∈ cs, u.oneCell' = true)
    (h : ∀ v' w', Sep W w' (items.set k (rowS e sz v' (n + 1) (xs ++ cs))) → wpList Try.prog ops Q rest (a.put o.dst v') w') : wpList Try.prog ops Q (o :: rest) a (w0.alloc (.cells cs.toArray e)) := by
  obtain ⟨i0, hi0, hz0, hz1, hz2⟩ := info_parts hinfo
  have h1 := h0.alloc (.cells cs.toArray e)
  obtain ⟨G, ⟨hrow, hG⟩, _, _, hstep⟩ := h1.at_ k hk
  have hb : (n + 1) * bytes ≤ 140737488355328 := Nat.le_trans (Nat.mul_le_mul (show n + 1 ≤ 1000 by omega) hby) (by decide)
  refine wpList_append_own_at _ hgd sx xx _ ho 0 e i0 _ sz bytes ht hi0 hz0 hz1 hz2 hzs hsz v n xs hs hrow ⟨w0.heap.size, 0, none⟩ 1 1 cs hx (by omega) (fun j u hj => ?_) h1c
    (by unfold maxLen; omega) hb (Nat.zero_le _) ?_
  · have := (Blk.new w0 e cs.toArray).cell j
    rw [show (⟨w0.heap.size, 0, none⟩ : Addr).add j = ⟨w0.heap.size, j, none⟩ by unfold Addr.add; by_cases h : j = 0 <;> simp [h], this]
    simpa using hj
  intro v' w' hown hg _ hat
  refine h v' w' (hstep w' (fun b => v'.ownBlock = some b) _ ⟨hown, fun b => Iff.rfl⟩ (fun b hb => ?_) ((Only.refl _ _).grown hg (fun q hq => .inl ((hG q).2 hq))))
  rcases hat with e | e
  · left; exact (hG b).2 (e ▸ hb)
  · right; rw [e] at hb; injection hb with hb; omega
end

theorem wp_push {ops : Array Oper} {rest : List Oper} {o : Oper} {a : Act} {w : World} {Q : Exit → Act → World → Prop} (t : TypeId) (hgd : o.guard = none) (s x : Operand)
    (ho : o.op = .call { callee := .builtin .append, args := #[s, x], argTypes := #[t, t] }) (hty : o.type = t) (u1 u2 : Value) (hs : a.eval s = u1) (hx : a.eval x = u2) {v' : Value} {W5 : World}
    (hrun : (Builtin.append_ #[t, t] t #[u1, u2]).run Try.prog w = .ok v' W5) (h : wpList Try.prog ops Q rest (a.put o.dst v') W5) : wpList Try.prog ops Q (o :: rest) a w := by
  refine wpList_plain hgd fun K hK => ?_
  unfold Oper.wp execOp
  simp only [ho, hty, resolve, invoke, builtin, Sem.run_bind, Sem.run_pure, Result.andThen_ok, List.map_toArray, List.map_cons, List.map_nil, hs, hx, hrun]
  exact hK _ _ h
/-- An append whose run is known, at a step of a region that draws its order. -/
theorem step_push {t : TypeId} {ops : Array Oper} {o : Oper} {a : Act} {w : World} {K : Act → World → Prop} {Q : Exit → Act → World → Prop} {E : Prop} (hgd : o.guard = none) (s x : Operand)
    (ho : o.op = .call { callee := .builtin .append, args := #[s, x], argTypes := #[t, t] }) (hty : o.type = t) (u1 u2 : Value) (hs : a.eval s = u1) (hx : a.eval x = u2) {v' : Value} {W5 : World}
    (hrun : (Builtin.append_ #[t, t] t #[u1, u2]).run Try.prog w = .ok v' W5) (h : K (a.put o.dst v') W5) :
    if Region.wanted o (yielded ops a.tmps) = true then Oper.wp Try.prog o a w K Q else E := by
  have hw : Region.wanted o (yielded ops a.tmps) = true := by simp [Region.wanted, hgd]
  rw [if_pos hw]
  unfold Oper.wp
  simp only [execOp, ho, hty, resolve, invoke, builtin, Sem.run_bind, Sem.run_pure, Result.andThen_ok, List.map_toArray, List.map_cons, List.map_nil, hs, hx, hrun]
  exact h

section
variable {W w w' : World} {items items' : List Item}
theorem sep_pick (h : Sep W w items) (idx : List Nat) (hn : idx.Nodup) (he : idx.map (fun i => items[i]?) = items'.map some) : Sep W w items' := by
  obtain ⟨hW, Gs, hl, hh, hd, hN⟩ := h
  have hlen : idx.length = items'.length := by simpa using congrArg List.length he
  have hat : ∀ (i : Nat) (it : Item), items'[i]? = some it → ∃ p, idx[i]? = some p ∧ items[p]? = some it := fun i it hi => by
    have h1 : (idx.map (fun i => items[i]?))[i]? = some (some it) := by rw [he, List.getElem?_map, hi]; rfl
    rw [List.getElem?_map] at h1
    cases hp : idx[i]? with
    | none => rw [hp] at h1; cases h1
    | some p => rw [hp] at h1; exact ⟨p, rfl, by simpa using h1⟩
  have hG : ∀ (i : Nat) (G : Nat → Prop), (idx.map fun p => Gs.getD p (fun _ => False))[i]? = some G → ∃ p, idx[i]? = some p ∧ Gs[p]? = some G := fun i G hi => by
    rw [List.getElem?_map] at hi
    cases hp : idx[i]? with
    | none => rw [hp] at hi; cases hi
    | some p =>
      rw [hp] at hi
      have hil : i < items'.length := by rw [← hlen]; exact (List.getElem?_eq_some_iff.1 hp).1
      obtain ⟨p', hp', hx⟩ := hat i _ (List.getElem?_eq_getElem hil)
      rw [hp] at hp'
      injection hp' with hp'
      subst hp'
      have hpl : p < Gs.length := by rw [hl]; exact (List.getElem?_eq_some_iff.1 hx).1
      refine ⟨p, rfl, ?_⟩
      rw [List.getElem?_eq_getElem hpl]
      simp only [Option.map_some, Option.some.injEq] at hi
      rw [← hi, List.getD_eq_getElem?_getD, List.getElem?_eq_getElem hpl]
      rfl
  refine ⟨hW, idx.map fun p => Gs.getD p (fun _ => False), by rw [List.length_map, hlen], fun i it G hi hG' => ?_, fun i j G H hij hi hj => ?_, fun i G hi => ?_⟩
  · obtain ⟨p, hp, hx⟩ := hat i it hi
    obtain ⟨p', hp', hg⟩ := hG i G hG'
    rw [hp] at hp'
    injection hp' with hp'
    subst hp'
    exact hh p it G hx hg
  · obtain ⟨p, hp, hg⟩ := hG i G hi
    obtain ⟨q, hq, hg'⟩ := hG j H hj
    refine hd p q G H (fun e => hij ?_) hg hg'
    subst e
    exact (List.getElem?_inj (List.getElem?_eq_some_iff.1 hp).1 hn).1 (hp.trans hq.symm)
  · obtain ⟨p, hp, hg⟩ := hG i G hi
    exact hN p G hg
/-- The last one first. -/
theorem sep_front {a : Item} (h : Sep W w (items ++ [a])) : Sep W w (a :: items) := by
  refine sep_pick h (items.length :: List.range items.length) ?_ ?_
  · rw [List.nodup_cons]
    exact ⟨by simp, List.nodup_range⟩
  · rw [List.map_cons, List.map_cons]
    congr 1
    · simp
    · apply List.ext_getElem?
      intro i
      rw [List.getElem?_map, List.getElem?_map]
      by_cases hi : i < items.length
      · rw [List.getElem?_range hi]
        simp [List.getElem?_append_left hi, List.getElem?_eq_getElem hi]
      · rw [List.getElem?_eq_none (l := items) (by omega), List.getElem?_eq_none (by simp; omega)]
        rfl
theorem new_front (h : Sep W w items) (it : Item) {G : Nat → Prop} (hG : it.holds w' G) (hn : ∀ b, G b → w.heap.size ≤ b) (hb : Below w.heap.size w w') : Sep W w' (it :: items) := sep_front (h.new it hG hn hb)
theorem loc_front (h : Sep W w items) (t : TypeId) (cs : Array Value) : Sep W (w.alloc (.cells cs t)) (locI [(w.heap.size, t, cs)] :: items) := sep_front (loc_alloc h t cs)
/-- The second one is forgotten. -/
theorem sep_skip {a b : Item} (h : Sep W w (a :: b :: items)) : Sep W w (a :: items) := by
  obtain ⟨hW, Gs, hl, hh, hd, hN⟩ := h
  match Gs, hl with
  | Ga :: Gb :: Gs, hl =>
    have hi : ∀ i : Nat, ∃ j, (∀ G, (Ga :: Gs)[i]? = some G → (Ga :: Gb :: Gs)[j]? = some G) ∧ (∀ it, (a :: items)[i]? = some it → (a :: b :: items)[j]? = some it) ∧ (j = if i = 0 then 0 else i + 1) := fun i => by
      cases i with
      | zero => exact ⟨0, fun _ h => h, fun _ h => h, rfl⟩
      | succ i => exact ⟨i + 2, fun _ h => h, fun _ h => h, rfl⟩
    refine ⟨hW, Ga :: Gs, by simpa using hl, fun i it G h1 h2 => ?_, fun i j G H hij h1 h2 => ?_, fun i G h1 => ?_⟩
    · obtain ⟨j, e1, e2, _⟩ := hi i
      exact hh j it G (e2 _ h1) (e1 _ h2)
    · obtain ⟨i', e1, _, e2⟩ := hi i
      obtain ⟨j', e3, _, e4⟩ := hi j
      refine hd i' j' G H ?_ (e1 _ h1) (e3 _ h2)
      rw [e2, e4]
      split <;> split <;> omega
    · obtain ⟨j, e1, _⟩ := hi i
      exact hN j G (e1 _ h1)

/-- A new row. -/
theorem rows_new (h : Sep W w items) {e : TypeId} {sz n : Nat} {v : Value} {xs : List Value} (ho : w'.ownsRow w.heap.size e sz v n xs) (hb : Below w.heap.size w w') : Sep W w' (rowS e sz v n xs :: items) :=
  new_front h (rowS e sz v n xs) (G := fun b => v.ownBlock = some b) ⟨own_base ho (Nat.zero_le _), fun _ => Iff.rfl⟩ (fun b hb' => (ho.lt b hb').1) hb

theorem rows_own {e : TypeId} {sz n : Nat} {v : Value} {xs : List Value} {k : Nat} (h : Sep W w items) (hk : items[k]? = some (rowS e sz v n xs)) : w.ownsRow 0 e sz v n xs := by
  obtain ⟨G, ⟨ho, _⟩, _⟩ := h.at_ k hk
  exact ho
end

/-- An append of one struct to a row of one's own: what it tells, and what is there then. -/
theorem rows_pushS {W w : World} {items : List Item} {k : Nat} {e t : TypeId} {sz bytes : Nat} {z : Value} {v : Value} {n : Nat} {xs cs : List Value} (h : Sep W w items) (hk : items[k]? = some (rowS e sz v n xs)) (hT : Try.prog.underlying t = some (.slice e)) (hinfo : (Try.prog.info? e).map (fun i => (i.zero, i.size, i.bytes)) = some (some z, sz, bytes)) (hzs : z.cells.size = sz) (hsz : 0 < sz) (hby : bytes ≤ 1000) (hn : n < 1000) (hl : cs.length = sz) (h1c : ∀ u ∈ cs, u.oneCell' = true) :
    ∃ v' W5, (Builtin.append_ #[t, t] t #[v, .slice (some ⟨w.heap.size, 0, none⟩) 1 1]).run Try.prog (w.alloc (.cells cs.toArray e)) = .ok v' W5 ∧ Sep W W5 (items.set k (rowS e sz v' (n + 1) (xs ++ cs))) := by
  obtain ⟨i0, hi0, hz0, hz1, hz2⟩ := info_parts hinfo
  have h1 := h.alloc (.cells cs.toArray e)
  obtain ⟨G, ⟨hrow, hG⟩, _, _, put⟩ := h1.at_ k hk
  have hb : (n + 1) * bytes ≤ 140737488355328 := Nat.le_trans (Nat.mul_le_mul (show n + 1 ≤ 1000 by omega) hby) (by decide)
  obtain ⟨v5, W5, hrun, own5, g5, _, hat5⟩ := run_append_own_at (P := Try.prog) (w.alloc (.cells cs.toArray e)) 0 t t e i0 _ sz bytes hT hi0 hz0 hz1 hz2 hzs hsz v n xs hrow ⟨w.heap.size, 0, none⟩ 1 1 cs (by omega)
    (fun j u hu => by
      rw [show (⟨w.heap.size, 0, none⟩ : Addr).add j = ⟨w.heap.size, j, none⟩ by unfold Addr.add; by_cases h : j = 0 <;> simp [h]]
      have := (Blk.new w e cs.toArray).cell j
      exact this.trans (by simpa using hu))
    h1c (by unfold maxLen; omega) hb (Nat.zero_le _)
  exact ⟨v5, W5, hrun, put W5 (fun b => v5.ownBlock = some b) (rowS e sz v5 (n + 1) (xs ++ cs)) ⟨own5, fun b => Iff.rfl⟩ (fun b hb => by
    rcases hat5 with e | e
    · left; exact (hG b).2 (e ▸ hb)
    · right; rw [e] at hb; injection hb with hb; rw [← hb]; exact Nat.le_refl _) ((Only.refl _ _).grown g5 (fun q hq => .inl ((hG q).2 hq)))⟩
theorem wp_app {t : TypeId} {o : Oper} {a : Act} {w : World} {K : Act → World → Prop} {Q : Exit → Act → World → Prop} (s x : Operand)
    (ho : o.op = .call { callee := .builtin .append, args := #[s, x], argTypes := #[t, t] }) (hty : o.type = t) (u1 u2 : Value) (hs : a.eval s = u1) (hx : a.eval x = u2) {v' : Value} {W5 : World}
    (hrun : (Builtin.append_ #[t, t] t #[u1, u2]).run Try.prog w = .ok v' W5) (h : K (a.put o.dst v') W5) : Oper.wp Try.prog o a w K Q := by
  unfold Oper.wp
  simp only [execOp, ho, hty, resolve, invoke, builtin, Sem.run_bind, Sem.run_pure, Result.andThen_ok, List.map_toArray, List.map_cons, List.map_nil, hs, hx, hrun]
  exact h
end Go.Proofs.Ytfhdckmpodmejaa.Sp
