/- The program's wheel in memory: its struct, its two maps, its entries, and the rows of its slots. -/
import Derived.Test.YtogfpakopckfoaaWpB
import Derived.Test.YtogfpakopckfoaaWhB
import Derived.Maps.Views
import Derived.Maps.OwnOps
import Derived.Maps.OwnSet
import Derived.Maps.Range
namespace Go.Proofs.Ytogfpakopckfoaa.Wl
open Go.RowKit Go.Lib Go.Maps
open Sp
set_option linter.unusedVariables false
set_option maxRecDepth 100000

/-- A timer, and the block that it lies in. -/
structure En where
  b : Nat
  t : Tm
def En.key (e : En) : Key := e.t.key
def En.n (e : En) : Nat := e.t.d.toNat
def En.ptr (e : En) : Value := .pointer (some ⟨e.b, 0, none⟩)
abbrev enC (e : En) (z : Nat) : Array Value := #[.string e.t.i, .int .u64 e.t.d, .int .i64 (z : Int)]
def whC (t ma mf : Nat) (v : Nat → Value) : Array Value := (.int .u64 (t : Int) :: .map (some ma) :: ((List.range 64).map v ++ [.map (some mf)])).toArray
def upd {α : Type} (v : Nat → α) (k : Nat) (x : α) : Nat → α := fun j => if j = k then x else v j
theorem upd_at {α : Type} (v : Nat → α) (k : Nat) (x : α) : upd v k x k = x := by unfold upd; rw [if_pos rfl]
theorem upd_ne {α : Type} {v : Nat → α} {k j : Nat} {x : α} (h : j ≠ k) : upd v k x j = v j := by unfold upd; rw [if_neg h]
theorem wh0 (t ma mf : Nat) (v : Nat → Value) : (whC t ma mf v)[0]? = some (.int .u64 (t : Int)) := rfl
theorem wh1 (t ma mf : Nat) (v : Nat → Value) : (whC t ma mf v)[1]? = some (.map (some ma)) := rfl
theorem whk (t ma mf : Nat) (v : Nat → Value) {k : Nat} (h : k < 64) : (whC t ma mf v)[2 + k]? = some (v k) := by
  unfold whC
  rw [List.getElem?_toArray, show 2 + k = k + 1 + 1 by omega, List.getElem?_cons_succ, List.getElem?_cons_succ, List.getElem?_append_left (by simpa using h), List.getElem?_map, List.getElem?_range h]
  rfl
theorem wh66 (t ma mf : Nat) (v : Nat → Value) : (whC t ma mf v)[66]? = some (.map (some mf)) := by
  unfold whC
  rw [List.getElem?_toArray, List.getElem?_cons_succ, List.getElem?_cons_succ, List.getElem?_append_right (by simp)]
  simp
theorem whC_size (t ma mf : Nat) (v : Nat → Value) : (whC t ma mf v).size = 67 := by simp [whC]
theorem whC_get {t ma mf : Nat} {v : Nat → Value} {cs : Array Value} (hs : cs.size = 67) (h0 : cs[0]? = some (.int .u64 (t : Int))) (h1 : cs[1]? = some (.map (some ma))) (hk : ∀ k, k < 64 → cs[2 + k]? = some (v k)) (h2 : cs[66]? = some (.map (some mf))) : cs = whC t ma mf v := by
  apply Array.ext_getElem?
  intro i
  by_cases e0 : i = 0
  · subst e0; rw [h0, wh0]
  by_cases e1 : i = 1
  · subst e1; rw [h1, wh1]
  by_cases e2 : i = 66
  · subst e2; rw [h2, wh66]
  by_cases h : i < 66
  · have := hk (i - 2) (by omega)
    have h3 := whk t ma mf v (k := i - 2) (by omega)
    rw [show 2 + (i - 2) = i by omega] at this h3
    rw [this, h3]
  · rw [Array.getElem?_eq_none (by omega), Array.getElem?_eq_none (by rw [whC_size]; omega)]
theorem wh_set (t ma mf : Nat) (v : Nat → Value) {k : Nat} (hk : k < 64) (x : Value) : (whC t ma mf v).setIfInBounds (2 + k) x = whC t ma mf (upd v k x) := by
  refine whC_get (by simp [whC_size]) ?_ ?_ (fun j hj => ?_) ?_
  · rw [Array.getElem?_setIfInBounds_ne (by omega), wh0]
  · rw [Array.getElem?_setIfInBounds_ne (by omega), wh1]
  · by_cases e : j = k
    · subst e
      rw [Array.getElem?_setIfInBounds_self_of_lt (by rw [whC_size]; omega), upd_at]
    · rw [Array.getElem?_setIfInBounds_ne (by omega), whk t ma mf v hj, upd_ne e]
  · rw [Array.getElem?_setIfInBounds_ne (by omega), wh66]
theorem wh_time (t ma mf : Nat) (v : Nat → Value) (n : Nat) : (whC t ma mf v).setIfInBounds 0 (.int .u64 (n : Int)) = whC n ma mf v := by
  refine whC_get (by simp [whC_size]) ?_ ?_ (fun j hj => ?_) ?_
  · rw [Array.getElem?_setIfInBounds_self_of_lt (by rw [whC_size]; omega)]
  · rw [Array.getElem?_setIfInBounds_ne (by omega), wh1]
  · rw [Array.getElem?_setIfInBounds_ne (by omega), whk t ma mf v hj]
  · rw [Array.getElem?_setIfInBounds_ne (by omega), wh66]

/-! ### The maps -/
def ptrR (v : Value) : Option (DataW Nat × List MemPlace) :=
  match v with
  | .pointer none => some (.nil, [])
  | .pointer (some ⟨b, 0, none⟩) => some (.held b, [])
  | _ => none
theorem ptrR_nil {v : Value} {ps : List MemPlace} (h : ptrR v = some (.nil, ps)) : v = .pointer none := by
  unfold ptrR at h
  split at h
  · rfl
  · injection h with h; injection h with h; cases h
  · cases h
theorem ptrR_held {v : Value} {b : Nat} {ps : List MemPlace} (h : ptrR v = some (.held b, ps)) : v = .pointer (some ⟨b, 0, none⟩) := by
  unfold ptrR at h
  split at h
  · injection h with h; injection h with h; cases h
  · injection h with h; injection h with h; injection h with h; subst h; rfl
  · cases h
/-- What a map has: these entries, by their keys. -/
structure MD (D : DataW Nat) (L : List En) : Prop where
  m : IsMap D
  some_ : ∀ e ∈ L, ∀ z, D.atKey (.string e.key) z = .held e.b
  none_ : ∀ x : Key, (∀ e ∈ L, e.key ≠ x) → ∀ z, D.atKey (.string x) z = z
  sz : Maps.size D = L.length
theorem MD.nil : MD (.map []) [] := ⟨isMap_empty, fun e he => (by cases he), fun x _ z => rfl, rfl⟩
theorem MD.perm {D : DataW Nat} {L L' : List En} (h : MD D L) (hp : L.Perm L') : MD D L' :=
  ⟨h.m, fun e he => h.some_ e (hp.mem_iff.2 he), fun x hx => h.none_ x (fun e he => hx e (hp.mem_iff.1 he)), h.sz.trans hp.length_eq⟩
theorem MD.has {D : DataW Nat} {L : List En} (h : MD D L) {e : En} (he : e ∈ L) : Maps.has D (.string e.key) = true := has_true_of_atKey (y := .held e.b) (h.some_ e he)
theorem MD.hasn {D : DataW Nat} {L : List En} (h : MD D L) {x : Key} (hx : ∀ e ∈ L, e.key ≠ x) : Maps.has D (.string x) = false := has_false_of_atKey (h.none_ x hx)
theorem MD.put {D : DataW Nat} {L : List En} (h : MD D L) (ht : Tidy D) {e : En} (hk : ∀ a ∈ L, a.key ≠ e.key) : MD (D.put (.string e.key) (.held e.b)) (e :: L) := by
  refine ⟨h.m.put _ _, fun a ha z => ?_, fun x hx z => ?_, ?_⟩
  · rcases List.mem_cons.1 ha with rfl | ha
    · rw [atKey_put_same h.m (by simp [WideAt.IsKeyLit])]
    · rw [atKey_put_other (fun e2 => hk a ha (by injection e2))]
      exact h.some_ a ha z
  · rw [atKey_put_other (fun e2 => hx e (List.mem_cons_self ..) (by injection e2 with e2; exact e2.symm))]
    exact h.none_ x (fun a ha => hx a (List.mem_cons_of_mem _ ha)) z
  · have := size_put (k := .string e.key) ht (.held e.b)
    rw [h.hasn hk] at this
    rw [List.length_cons, ← h.sz]
    simpa using this
theorem MD.del {D : DataW Nat} {L : List En} {e : En} (h : MD D (e :: L)) (ht : Tidy D) (hk : ∀ a ∈ L, a.key ≠ e.key) : MD (D.del (.string e.key)) L := by
  refine ⟨h.m.del _, fun a ha z => ?_, fun x hx z => ?_, ?_⟩
  · rw [atKey_del_other (fun e2 => hk a ha (by injection e2))]
    exact h.some_ a (List.mem_cons_of_mem _ ha) z
  · by_cases e2 : x = e.key
    · subst e2
      rw [atKey_del_same]
    · rw [atKey_del_other (fun e3 => e2 (by injection e3))]
      refine h.none_ x (fun a ha => ?_) z
      rcases List.mem_cons.1 ha with rfl | ha
      · exact fun e3 => e2 e3.symm
      · exact hx a ha
  · have := size_del (k := .string e.key) ht
    rw [h.has (List.mem_cons_self ..), if_pos rfl] at this
    have h2 := h.sz
    rw [List.length_cons] at h2
    omega
def MapL (w : World) (b : Nat) (L : List En) : Prop := ∃ D, w.ownsMap Try.prog 9 ptrR b L.length D ∧ MD D L
theorem own_size {k : TypeId} {R : Value → Option (DataW Nat × List MemPlace)} {w : World} {b n : Nat} {D : DataW Nat} (h : w.ownsMap Try.prog k R b n D) : w.ownsMap Try.prog k R b (Maps.size D) D := by
  obtain ⟨es, clock, h1, h2, h3, rfl⟩ := h
  refine ⟨es, clock, h1, h2, ?_, rfl⟩
  rw [Maps.size_eq, length_read]
  exact Nat.le_refl _
theorem MapL.mk {w : World} {b n : Nat} {D : DataW Nat} {L : List En} (h : w.ownsMap Try.prog 9 ptrR b n D) (hD : MD D L) : MapL w b L := ⟨D, by rw [← hD.sz]; exact own_size h, hD⟩
theorem MapL.same {w w' : World} {b : Nat} {L : List En} (h : MapL w b L) (hs : w'.heap[b]? = w.heap[b]?) : MapL w' b L := by
  obtain ⟨D, ⟨es, clock, h1, h2⟩, hD⟩ := h
  exact ⟨D, ⟨es, clock, hs.trans h1, h2⟩, hD⟩
theorem MapL.perm {w : World} {b : Nat} {L L' : List En} (h : MapL w b L) (hp : L.Perm L') : MapL w b L' := by
  obtain ⟨D, h1, hD⟩ := h
  exact ⟨D, by rw [← hp.length_eq]; exact h1, hD.perm hp⟩
theorem MapL.is {w : World} {b : Nat} {L : List En} (h : MapL w b L) : ∃ es clock, w.heap[b]? = some (.map es clock) := by
  obtain ⟨D, ⟨es, clock, h1, h2⟩, hD⟩ := h
  exact ⟨es, clock, h1⟩
theorem strK : Maps.Keyed Try.prog 9 := string_keyed Try.underlying9
theorem key_str {i : ByteArray} (hi : i.size ≤ 1000) : keyOf Try.prog 9 (.string i) = some (.string i.toList) := by
  simp [keyOf, Try.underlying9, mapKey, show i.size ≤ maxLen by unfold maxLen; omega, Lib.toList_data]

/-! ### Lists of entries -/
/-- Entries as they may be. -/
structure AOk (A : List En) : Prop where
  k : (A.map En.key).Nodup
  b : (A.map En.b).Nodup
  n : A.length ≤ 200
  d : ∀ e ∈ A, 0 ≤ e.t.d ∧ e.t.d < 18446744073709551616
  i : ∀ e ∈ A, e.t.i.size ≤ 1000
theorem AOk.nd {A : List En} (h : AOk A) : A.Nodup := List.Pairwise.of_map En.b (fun _ _ h e => h (by rw [e])) h.b
theorem nodup_inj {α β : Type} {f : α → β} {l : List α} (h : (l.map f).Nodup) {x y : α} (hx : x ∈ l) (hy : y ∈ l) (e : f x = f y) : x = y := by
  induction l with
  | nil => cases hx
  | cons a l ih =>
    rw [List.map_cons, List.nodup_cons] at h
    rcases List.mem_cons.1 hx with rfl | hx'
    · rcases List.mem_cons.1 hy with rfl | hy'
      · rfl
      · exact absurd (List.mem_map.2 ⟨y, hy', e.symm⟩) h.1
    · rcases List.mem_cons.1 hy with rfl | hy'
      · exact absurd (List.mem_map.2 ⟨x, hx', e⟩) h.1
      · exact ih h.2 hx' hy'
theorem AOk.sub {A B : List En} (h : AOk A) (hs : B.Sublist A) : AOk B :=
  ⟨(hs.map En.key).nodup h.k, (hs.map En.b).nodup h.b, Nat.le_trans hs.length_le h.n, fun e he => h.d e (hs.subset he), fun e he => h.i e (hs.subset he)⟩
theorem AOk.perm {A B : List En} (h : AOk A) (hp : A.Perm B) : AOk B :=
  ⟨(hp.map En.key).nodup_iff.1 h.k, (hp.map En.b).nodup_iff.1 h.b, by rw [← hp.length_eq]; exact h.n, fun e he => h.d e (hp.mem_iff.2 he), fun e he => h.i e (hp.mem_iff.2 he)⟩
/-- One entry more that is picked. -/
theorem filter_put {A : List En} {p q : En → Bool} {e : En} (hb : (A.map En.b).Nodup) (he : e ∈ A) (hp : p e = false) (hq : q e = true) (hs : ∀ x ∈ A, x ≠ e → q x = p x) : (A.filter q).Perm (e :: A.filter p) := by
  induction A with
  | nil => cases he
  | cons a A ih =>
    rw [List.map_cons, List.nodup_cons] at hb
    rcases List.mem_cons.1 he with rfl | he'
    · rw [List.filter_cons_of_pos hq, List.filter_cons_of_neg (by simp [hp])]
      rw [List.filter_congr (q := p) fun x hx => hs x (List.mem_cons_of_mem _ hx) (fun e2 => hb.1 (List.mem_map.2 ⟨x, hx, by rw [e2]⟩))]
    · have hne : a ≠ e := fun e2 => hb.1 (List.mem_map.2 ⟨e, he', by rw [e2]⟩)
      have h1 := hs a (List.mem_cons_self ..) hne
      have h2 := ih hb.2 he' (fun x hx => hs x (List.mem_cons_of_mem _ hx))
      by_cases ha : p a = true
      · rw [List.filter_cons_of_pos (by rw [h1]; exact ha), List.filter_cons_of_pos ha]
        exact (h2.cons a).trans (List.Perm.swap e a _)
      · rw [List.filter_cons_of_neg (by rw [h1]; exact ha), List.filter_cons_of_neg ha]
        exact h2

/-! ### The wheel -/
abbrev farP (t : Nat) (p : En → Bool) (e : En) : Bool := p e && decide (ix t e.n = 64)
abbrev slP (t : Nat) (p : En → Bool) (k : Nat) (e : En) : Bool := p e && decide (ix t e.n = k)
structure MemW (w : World) (g ma mf : Nat) (v : Nat → Value) (sl : Nat → List En) (t : Nat) (L A : List En) (p : En → Bool) : Prop where
  blk : Sp.Blk w g 66 (whC t ma mf v)
  am : MapL w ma L
  fm : MapL w mf (A.filter (slP t p 64))
  ne : ma ≠ mf
  ent : ∀ e ∈ A, ∃ z : Nat, z ≤ 1000 ∧ Sp.Blk w e.b 77 (enC e z)
  row : ∀ k, k < 64 → w.ownsRow 0 75 1 (v k) (sl k).length ((sl k).map En.ptr)
  at_ : ∀ k, k < 64 → ∀ j e, (sl k)[j]? = some e → Sp.Blk w e.b 77 (enC e j)
  per : ∀ k, k < 64 → (sl k).Perm (A.filter (slP t p k))
  own : ∀ k k', k < 64 → k' < 64 → k ≠ k' → ∀ b, (v k).ownBlock = some b → (v k').ownBlock ≠ some b
/-- The blocks that it lies in. -/
def Foot (g ma mf : Nat) (v : Nat → Value) (A : List En) (b : Nat) : Prop := b = g ∨ b = ma ∨ b = mf ∨ (∃ e ∈ A, e.b = b) ∨ ∃ k, k < 64 ∧ (v k).ownBlock = some b
theorem blk_ty {w : World} {b : Nat} {s t : TypeId} {cs ds : Array Value} (h : Sp.Blk w b s cs) (k : Sp.Blk w b t ds) : s = t := by
  have := h.symm.trans k
  simp at this
  exact this.2
theorem blk_map {w : World} {b m : Nat} {t : TypeId} {cs : Array Value} {L : List En} (h : Sp.Blk w b t cs) (k : MapL w m L) : b ≠ m := by
  obtain ⟨es, clock, h1⟩ := k.is
  rintro rfl
  have := h.symm.trans h1
  simp at this
theorem row_blk {w : World} {v : Value} {n r : Nat} {xs : List Value} {e : TypeId} (h : w.ownsRow 0 e 1 v n xs) (hr : v.ownBlock = some r) : ∃ cur, Sp.Blk w r e cur := by
  rcases h.2 with ⟨rfl, _⟩ | ⟨g, cap, cur, rfl, _, hg, _⟩
  · cases hr
  · injection hr with hr
    subst hr
    exact ⟨cur, hg⟩
section
variable {w w' : World} {g ma mf t : Nat} {v : Nat → Value} {sl : Nat → List En} {L A : List En} {p : En → Bool}
theorem MemW.lt (h : MemW w g ma mf v sl t L A p) : ∀ b, Foot g ma mf v A b → b < w.heap.size := by
  rintro b (rfl | rfl | rfl | ⟨e, he, rfl⟩ | ⟨k, hk, hb⟩)
  · exact h.blk.lt
  · obtain ⟨es, c, h1⟩ := h.am.is; exact (Array.getElem?_eq_some_iff.1 h1).1
  · obtain ⟨es, c, h1⟩ := h.fm.is; exact (Array.getElem?_eq_some_iff.1 h1).1
  · obtain ⟨z, _, hz⟩ := h.ent e he; exact hz.lt
  · exact ((h.row k hk).lt b hb).2
theorem MemW.same (h : MemW w g ma mf v sl t L A p) (hs : ∀ b, Foot g ma mf v A b → w'.heap[b]? = w.heap[b]?) : MemW w' g ma mf v sl t L A p where
  blk := (hs g (.inl rfl)).trans h.blk
  am := h.am.same (hs ma (.inr (.inl rfl)))
  fm := h.fm.same (hs mf (.inr (.inr (.inl rfl))))
  ne := h.ne
  ent e he := by obtain ⟨z, h1, h2⟩ := h.ent e he; exact ⟨z, h1, (hs e.b (.inr (.inr (.inr (.inl ⟨e, he, rfl⟩))))).trans h2⟩
  row k hk := own_same (h.row k hk) (fun b hb => hs b (.inr (.inr (.inr (.inr ⟨k, hk, hb⟩)))))
  at_ k hk j e hj := by
    have he : e ∈ A := (List.mem_filter.1 ((h.per k hk).mem_iff.1 (List.mem_of_getElem? hj))).1
    exact (hs e.b (.inr (.inr (.inr (.inl ⟨e, he, rfl⟩))))).trans (h.at_ k hk j e hj)
  per := h.per
  own := h.own
/-- As an item. -/
def wI (g t : Nat) (L A : List En) (p : En → Bool) : Sp.Item :=
  ⟨fun w G => ∃ ma mf v sl, MemW w g ma mf v sl t L A p ∧ ∀ b, G b ↔ Foot g ma mf v A b,
   fun ⟨ma, mf, v, sl, h, hG⟩ hs _ => ⟨ma, mf, v, sl, h.same (fun b hb => hs b ((hG b).2 hb)), hG⟩,
   fun ⟨ma, mf, v, sl, h, hG⟩ b hb => h.lt b ((hG b).1 hb)⟩
theorem wI_at {W : World} {items : List Sp.Item} {k : Nat} (h : Sp.Sep W w items) (hk : items[k]? = some (wI g t L A p)) : ∃ ma mf v sl, MemW w g ma mf v sl t L A p := by
  obtain ⟨G, ⟨ma, mf, v, sl, hM, _⟩, _⟩ := h.at_ k hk
  exact ⟨ma, mf, v, sl, hM⟩
/-- The wheel at hand, and how it is put back: nothing changed but its own blocks, or new ones. -/
theorem wI_take {W : World} {items : List Sp.Item} {k : Nat} (h : Sp.Sep W w items) (hk : items[k]? = some (wI g t L A p)) : ∃ ma mf v sl, MemW w g ma mf v sl t L A p ∧
    ∀ (w' : World) (v' : Nat → Value) (sl' : Nat → List En) (t' : Nat) (L' A' : List En) (p' : En → Bool), MemW w' g ma mf v' sl' t' L' A' p' → Only (Foot g ma mf v A) w w' → (∀ b, Foot g ma mf v' A' b → Foot g ma mf v A b ∨ w.heap.size ≤ b) → Sp.Sep W w' (items.set k (wI g t' L' A' p')) := by
  obtain ⟨G, ⟨ma, mf, v, sl, hM, hG⟩, _, _, put⟩ := h.at_ k hk
  refine ⟨ma, mf, v, sl, hM, fun w' v' sl' t' L' A' p' hM' ho hgr => ?_⟩
  refine put w' (Foot g ma mf v' A') _ ⟨ma, mf, v', sl', hM', fun b => Iff.rfl⟩ (fun b hb => ?_) (ho.mono fun b hb => .inl ((hG b).2 hb))
  rcases hgr b hb with h1 | h1
  · exact .inl ((hG b).2 h1)
  · exact .inr h1
theorem MemW.in_sl (h : MemW w g ma mf v sl t L A p) {k : Nat} (hk : k < 64) {e : En} : e ∈ sl k ↔ e ∈ A ∧ p e = true ∧ ix t e.n = k := by
  rw [(h.per k hk).mem_iff, List.mem_filter]
  simp
theorem MemW.len (h : MemW w g ma mf v sl t L A p) (hA : A.length ≤ 200) {k : Nat} (hk : k < 64) : (sl k).length ≤ 200 := by
  rw [(h.per k hk).length_eq]
  exact Nat.le_trans (List.length_filter_le _ _) hA
end
end Go.Proofs.Ytogfpakopckfoaa.Wl
