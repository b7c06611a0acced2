/- Several things that a law has made, each in blocks of its own (disks, rows of cells), newer than a world W: a call on one of them leaves the others, and all that W had, as they were. -/
import Derived.Test.YtoblkjahohlflaaDiskI
namespace Go.Proofs.Ytoblkjahohlflaa
open Go.RowKit Go.MapKept Go.Lib
set_option linter.unusedVariables false

/-- A thing in memory: what it means that it lies in the blocks G. -/
structure Item where
  holds : World → (Nat → Prop) → Prop
  stable : ∀ {w w' : World} {G : Nat → Prop}, holds w G → (∀ b, G b → w'.heap[b]? = w.heap[b]?) → w.heap.size ≤ w'.heap.size → holds w' G
  lt : ∀ {w : World} {G : Nat → Prop}, holds w G → ∀ b, G b → b < w.heap.size

theorem DiskIn.same {w w' : World} {d h l : Nat} {v : Value} {F : Nat → Prop} {s : St} (D : DiskIn w d h l v F s) (hs : ∀ i, F i → w'.heap[i]? = w.heap[i]?) (hz : w.heap.size ≤ w'.heap.size) : DiskIn w' d h l v F s :=
  ⟨D.fd, D.fh, D.fl, D.fv, D.hl, (hs d D.fd).trans D.blk, let ⟨f, h1, h2⟩ := D.held; ⟨f, h1.same (hs h D.fh), h2⟩, let ⟨f, h1, h2⟩ := D.last; ⟨f, h1.same (hs l D.fl), h2⟩,
    own_same D.own (fun g hg => hs g (D.fv g hg)), fun b hb => Nat.lt_of_lt_of_le (D.lt b hb) hz, D.good⟩
def diskI (d : Nat) (s : St) : Item := ⟨fun w G => DiskAt w d G s, fun ⟨h, l, v, D⟩ hs hz => ⟨h, l, v, D.same hs hz⟩, fun D => D.lt⟩
def rowI (t : TypeId) (v : Value) (n : Nat) (xs : List Value) : Item := ⟨fun w G => w.ownsRow 0 t 1 v n xs ∧ ∀ b, G b ↔ v.ownBlock = some b, fun ⟨h, hG⟩ hs hz => ⟨own_same h (fun g hg => hs g ((hG g).2 hg)), hG⟩, fun ⟨h, hG⟩ b hb => (h.lt b ((hG b).1 hb)).2⟩

/-- The things lie apart from each other, in blocks newer than W; what W had is as it was. -/
def Sep (W w : World) (items : List Item) : Prop :=
  Below W.heap.size W w ∧ ∃ Gs : List (Nat → Prop), Gs.length = items.length ∧ (∀ (i : Nat) (it : Item) (G : Nat → Prop), items[i]? = some it → Gs[i]? = some G → it.holds w G) ∧
    (∀ (i j : Nat) (G H : Nat → Prop), i ≠ j → Gs[i]? = some G → Gs[j]? = some H → ∀ b, G b → ¬ H b) ∧ ∀ (i : Nat) (G : Nat → Prop), Gs[i]? = some G → ∀ b, G b → W.heap.size ≤ b

section
variable {W w w' : World} {items : List Item}
theorem Sep.below (h : Sep W w items) : Below W.heap.size W w := h.1
theorem Sep.later (h : Sep W w items) (hb : Below w.heap.size w w') : Sep W w' items := by
  obtain ⟨hW, Gs, hl, hh, hd, hN⟩ := h
  refine ⟨hW.trans (hb.mono hW.size), Gs, hl, fun i it G hi hG => ?_, hd, hN⟩
  have := hh i it G hi hG
  exact it.stable this (fun b hb' => hb.block b (it.lt this b hb')) hb.size
theorem Sep.drew (h : Sep W w items) : Sep W w.drew items := h.later (Below.refl _ _).drew
theorem Sep.alloc (h : Sep W w items) (o : Obj) : Sep W (w.alloc o) items := h.later ((Below.refl _ _).alloc (Nat.le_refl _) o)
theorem Sep.nil (hW : Below W.heap.size W w) : Sep W w [] := ⟨hW, [], rfl, fun i it G hi _ => by simp at hi, fun i j G H _ hi _ => by simp at hi, fun i G hi => by simp at hi⟩

/-- One thing at hand: what becomes of the rest where only its own blocks change. -/
theorem Sep.at_ (h : Sep W w items) (k : Nat) {it : Item} (hk : items[k]? = some it) :
    ∃ G : Nat → Prop, it.holds w G ∧ (∀ b, G b → W.heap.size ≤ b) ∧ (∀ (j : Nat) (it' : Item), items[j]? = some it' → j ≠ k → ∃ H : Nat → Prop, it'.holds w H ∧ ∀ b, H b → ¬ G b) ∧
      ∀ (w' : World) (G' : Nat → Prop) (it' : Item), it'.holds w' G' → Grew w G G' → Only G w w' → Sep W w' (items.set k it') := by
  obtain ⟨hW, Gs, hl, hh, hd, hN⟩ := h
  have hkl : k < Gs.length := by rw [hl]; exact (List.getElem?_eq_some_iff.1 hk).1
  have hkG : Gs[k]? = some Gs[k] := List.getElem?_eq_getElem hkl
  generalize Gs[k] = G at hkG
  have hG := hh k it G hk hkG
  refine ⟨G, hG, hN k G hkG, fun j it' hj hjk => ?_, fun w' G' it' hG' hgr ho => ?_⟩
  · have hjl : j < Gs.length := by rw [hl]; exact (List.getElem?_eq_some_iff.1 hj).1
    have hjG : Gs[j]? = some Gs[j] := List.getElem?_eq_getElem hjl
    exact ⟨Gs[j], hh j it' _ hj hjG, hd j k _ _ hjk hjG hkG⟩
  · have hset : ∀ (i : Nat) (H : Nat → Prop), (Gs.set k G')[i]? = some H → (i = k ∧ H = G') ∨ (i ≠ k ∧ Gs[i]? = some H) := fun i H hi => by
      rw [List.getElem?_set] at hi
      by_cases e : k = i
      · subst e
        rw [if_pos rfl, if_pos hkl] at hi
        injection hi with hi
        exact .inl ⟨rfl, hi.symm⟩
      · rw [if_neg e] at hi
        exact .inr ⟨fun h => e h.symm, hi⟩
    have hnew : ∀ (i : Nat) (H : Nat → Prop), Gs[i]? = some H → i ≠ k → ∀ b, H b → ¬ G' b := fun i H hi hne b hb hb' => by
      rcases hgr b hb' with h1 | h1
      · exact hd i k H G hne hi hkG b hb h1
      · have hil : i < items.length := by rw [← hl]; exact (List.getElem?_eq_some_iff.1 hi).1
        have := (items[i]).lt (hh i _ H (List.getElem?_eq_getElem hil) hi) b hb
        omega
    refine ⟨hW.trans (ho.below hW.size (hN k G hkG)), Gs.set k G', by simp [hl], fun i it2 H hi hH => ?_, fun i j H H' hij hi hj b hb hb' => ?_, fun i H hi b hb => ?_⟩
    · rcases hset i H hH with ⟨rfl, rfl⟩ | ⟨hne, hH'⟩
      · rw [List.getElem?_set_self (List.getElem?_eq_some_iff.1 hk).1] at hi
        injection hi with hi
        subst hi
        exact hG'
      · rw [List.getElem?_set_ne (Ne.symm hne)] at hi
        have h2 := hh i it2 H hi hH'
        exact it2.stable h2 (fun b hb => ho.block b (it2.lt h2 b hb) (hd i k H G hne hH' hkG b hb)) ho.size
    · rcases hset i H hi with ⟨rfl, rfl⟩ | ⟨hne, hH⟩ <;> rcases hset j H' hj with ⟨rfl, rfl⟩ | ⟨hne', hH'⟩
      · exact hij rfl
      · exact hnew j H' hH' hne' b hb' hb
      · exact hnew i H hH hne b hb hb'
      · exact hd i j H H' hij hH hH' b hb hb'
    · rcases hset i H hi with ⟨rfl, rfl⟩ | ⟨hne, hH⟩
      · rcases hgr b hb with h1 | h1
        · exact hN _ G hkG b h1
        · exact Nat.le_trans hW.size h1
      · exact hN i H hH b hb

/-- A new thing, in new blocks. -/
theorem Sep.new (h : Sep W w items) (it : Item) {G : Nat → Prop} (hG : it.holds w' G) (hn : ∀ b, G b → w.heap.size ≤ b) (hb : Below w.heap.size w w') : Sep W w' (items ++ [it]) := by
  obtain ⟨hW, Gs, hl, hh, hd, hN⟩ := h
  have hlt : ∀ (i : Nat) (H : Nat → Prop), Gs[i]? = some H → ∀ b, H b → b < w.heap.size := fun i H hi b hb => by
    have hil : i < items.length := by rw [← hl]; exact (List.getElem?_eq_some_iff.1 hi).1
    exact (items[i]).lt (hh i _ H (List.getElem?_eq_getElem hil) hi) b hb
  have hcase : ∀ (i : Nat) (H : Nat → Prop), (Gs ++ [G])[i]? = some H → (i = Gs.length ∧ H = G) ∨ (i < Gs.length ∧ Gs[i]? = some H) := fun i H hi => by
    rcases Nat.lt_or_ge i Gs.length with h1 | h1
    · rw [List.getElem?_append_left h1] at hi
      exact .inr ⟨h1, hi⟩
    · rw [List.getElem?_append_right h1] at hi
      have hi0 : i - Gs.length = 0 := by
        rcases Nat.eq_zero_or_pos (i - Gs.length) with e | e
        · exact e
        · rw [List.getElem?_eq_none (by simp; omega)] at hi; cases hi
      rw [hi0] at hi
      exact .inl ⟨by omega, by simpa using hi.symm⟩
  refine ⟨hW.trans (hb.mono hW.size), Gs ++ [G], by simp [hl], fun i it2 H hi hH => ?_, fun i j H H' hij hi hj b hbb hb' => ?_, fun i H hi b hbb => ?_⟩
  · rcases hcase i H hH with ⟨rfl, rfl⟩ | ⟨h1, h2⟩
    · rw [hl, List.getElem?_append_right (Nat.le_refl _), Nat.sub_self] at hi
      have : it = it2 := by simpa using hi
      subst this
      exact hG
    · rw [List.getElem?_append_left (by omega)] at hi
      have h3 := hh i it2 H hi h2
      exact it2.stable h3 (fun b hb' => hb.block b (it2.lt h3 b hb')) hb.size
  · rcases hcase i H hi with ⟨e1, rfl⟩ | ⟨h1, h2⟩ <;> rcases hcase j H' hj with ⟨e2, rfl⟩ | ⟨h3, h4⟩
    · omega
    · have := hn b hbb; have := hlt j H' h4 b hb'; omega
    · have := hn b hb'; have := hlt i H h2 b hbb; omega
    · exact hd i j H H' hij h2 h4 b hbb hb'
  · rcases hcase i H hi with ⟨_, rfl⟩ | ⟨_, h2⟩
    · exact Nat.le_trans hW.size (hn b hbb)
    · exact hN i H h2 b hbb

/-! ### The calls of a disk among other things -/
variable {d : Nat} {s : St}
theorem new_s (h : Sep W w items) (n : Int) (h1 : 1 ≤ n) (h2 : n ≤ 4096) :
    Calls Try.prog 4 #[.int .i64 n] w fun e w' => ∃ d, e = .returned (.tuple #[.pointer (some ⟨d, 0, none⟩), .int .i64 0]) ∧ Sep W w' (items ++ [diskI d (St.new n)]) :=
  (new_yes n h1 h2).mono fun e w' ⟨d, F, he, hD, hF, hb⟩ => ⟨d, he, h.new (diskI d (St.new n)) hD hF hb⟩
theorem good_s (h : Sep W w items) (k : Nat) (hk : items[k]? = some (diskI d s)) : s.Good := by
  obtain ⟨G, D, _⟩ := h.at_ k hk
  exact DiskAt.good D
theorem write_s (h : Sep W w items) (k : Nat) (hk : items[k]? = some (diskI d s)) (i : Int) (x : ByteArray) (hi : s.has i) (hx : x.size = 128) (hd : ¬ s.dead) (hpl : s.pend.length < 1048576) :
    Calls Try.prog 14 #[.pointer (some ⟨d, 0, none⟩), .int .i64 i, .string x] w fun e w' => e = .returned (.int .i64 0) ∧ Sep W w' (items.set k (diskI d (s.write i x))) := by
  obtain ⟨G, D, _, _, hstep⟩ := h.at_ k hk
  exact (write_yes D i x hi hx hd hpl).mono fun e w' ⟨he, ⟨F', D', hG⟩, hO⟩ => ⟨he, hstep w' F' (diskI d (s.write i x)) D' hG hO⟩
theorem flush_s (h : Sep W w items) (k : Nat) (hk : items[k]? = some (diskI d s)) (hd : ¬ s.dead) (hpl : s.pend.length < 1048576) :
    Calls Try.prog 16 #[.pointer (some ⟨d, 0, none⟩)] w fun e w' => e = .returned (.int .i64 0) ∧ Sep W w' (items.set k (diskI d s.flush)) := by
  obtain ⟨G, D, _, _, hstep⟩ := h.at_ k hk
  exact (flush_yes D hd hpl).mono fun e w' ⟨he, ⟨F', D', hG⟩, hO⟩ => ⟨he, hstep w' F' (diskI d s.flush) D' hG hO⟩
theorem read_s (h : Sep W w items) (k : Nat) (hk : items[k]? = some (diskI d s)) (i : Int) (hi : s.has i) (x : ByteArray) (hx : s.cur i = x) :
    Calls Try.prog 17 #[.pointer (some ⟨d, 0, none⟩), .int .i64 i] w fun e w' => e = .returned (.tuple #[.string x, .int .i64 0]) ∧ Sep W w' items := by
  subst hx
  obtain ⟨G, D, _⟩ := h.at_ k hk
  exact (read_yes D i hi).mono fun e w' ⟨he, hb⟩ => ⟨he, h.later hb⟩
theorem pending_s (h : Sep W w items) (k : Nat) (hk : items[k]? = some (diskI d s)) (m : Int) (hm : (s.pend.length : Int) = m) :
    Calls Try.prog 18 #[.pointer (some ⟨d, 0, none⟩)] w fun e w' => e = .returned (.int .i64 m) ∧ Sep W w' items := by
  subst hm
  obtain ⟨G, D, _⟩ := h.at_ k hk
  exact (pending_any D).mono fun e w' ⟨he, hw⟩ => ⟨he, hw ▸ h⟩
/-- A crash whose list of bools is a row of the law's own. -/
theorem crash_s (h : Sep W w items) (k : Nat) (hk : items[k]? = some (diskI d s)) (j : Nat) (hjk : j ≠ k) {t : TypeId} {A : Option Addr} {m c : Nat} (ks : List Bool) (hj : items[j]? = some (rowI t (.slice A m c) m (ks.map Value.bool))) (hm : m ≤ maxLen) (torn pos : Int) (hpl : s.pend.length < 1048576) :
    Calls Try.prog 11 #[.pointer (some ⟨d, 0, none⟩), .slice A m c, .int .i64 torn, .int .i64 pos] w fun e w' => e = .returned (.tuple #[]) ∧ Sep W w' (items.set k (diskI d (s.crash (fun i => ks.getD i false) torn (clampN pos)))) := by
  obtain ⟨G, D, _, hoth, hstep⟩ := h.at_ k hk
  obtain ⟨H, ⟨hrow, hH⟩, hdis⟩ := hoth j _ hj hjk
  have hlen : ks.length = m := by have := hrow.1; simpa using this
  have hkeep : KeepIs w G A m (fun i => ks.getD i false) := by
    refine ⟨fun h0 => ?_, fun i hi => by simp [List.getD, List.getElem?_eq_none (show ks.length ≤ i by omega)]⟩
    rcases hrow.2 with ⟨_, e⟩ | ⟨g, cap, cur, hv, _, hblk, _⟩
    · omega
    · have hA : A = some ⟨g, 0, none⟩ := by injection hv
      subst hA
      refine ⟨g, 0, rfl, hdis g ((hH g).2 rfl), fun i hi => ?_⟩
      have := hrow.cells (g := g) rfl i (.bool (ks.getD i false)) (by simp [List.getElem?_eq_getElem (show i < ks.length by omega)])
      rw [Addr.add_mid] at this
      exact this
  exact (crash_any D A m c hm _ torn pos hkeep hpl).mono fun e w' ⟨he, ⟨F', D', hG⟩, hO⟩ => ⟨he, hstep w' F' (diskI d _) D' hG hO⟩
/-- A crash whose list of bools is an argument. -/
theorem crash_arg_s (h : Sep W w items) (k : Nat) (hk : items[k]? = some (diskI d s)) (A : Option Addr) (m c : Nat) (hm : m ≤ maxLen) (keep : Nat → Bool) (torn pos : Int) (hc : CellsIn W A m (fun j => .bool (keep j))) (hkf : ∀ j, m ≤ j → keep j = false) (hpl : s.pend.length < 1048576) :
    Calls Try.prog 11 #[.pointer (some ⟨d, 0, none⟩), .slice A m c, .int .i64 torn, .int .i64 pos] w fun e w' => e = .returned (.tuple #[]) ∧ Sep W w' (items.set k (diskI d (s.crash keep torn (clampN pos)))) := by
  obtain ⟨G, D, hN, _, hstep⟩ := h.at_ k hk
  exact (crash_any D A m c hm keep torn pos (keep_old h.below hN hc hkf) hpl).mono fun e w' ⟨he, ⟨F', D', hG⟩, hO⟩ => ⟨he, hstep w' F' (diskI d _) D' hG hO⟩
/-- A row that was just made. -/
theorem Sep.lit (h : Sep W w items) (t : TypeId) (cs : Array Value) (n : Nat) (hs : cs.size = n) (hn : n ≤ maxLen) : Sep W (w.alloc (.cells cs t)) (items ++ [rowI t (.slice (some ⟨w.heap.size, 0, none⟩) n n) n cs.toList]) := by
  refine h.new _ (G := fun b => b = w.heap.size) ⟨World.ownsRow_lit w cs n (Nat.zero_le _) hn (by rw [Nat.mul_one]; exact hs), fun b => ?_⟩ (fun b hb => by omega) ((Below.refl _ _).alloc (Nat.le_refl _) _)
  simp [Value.ownBlock, eq_comm]
theorem bool_info : (Try.prog.info? 4).map (fun i => (i.zero, i.size, i.bytes)) = some (some (.bool false), 1, 1) := by kernel_rfl
/-- 'keep = append(keep, b)'. -/
theorem wp_append_bool {ops : Array Oper} {rest : List Oper} {o : Oper} {a : Act} {w0 : World} {Q : Exit → Act → World → Prop} {n : Nat} {v : Value} {xs : List Value} {B : Bool} (hgd : o.guard = none) (sx xx : Operand)
    (ho : o.op = .call { callee := .builtin .append, args := #[sx, xx], argTypes := #[34, 34] }) (hs : a.eval sx = v) (hx : a.eval xx = .slice (some ⟨w0.heap.size, 0, none⟩) 1 1) (h0 : Sep W w0 items) (k : Nat) (hk : items[k]? = some (rowI 4 v n xs)) (hn : n < 1000)
    (h : ∀ v' w', Sep W w' (items.set k (rowI 4 v' (n + 1) (xs ++ [.bool B]))) → wpList Try.prog ops Q rest (a.put o.dst v') w') : wpList Try.prog ops Q (o :: rest) a (w0.alloc (.cells #[.bool B] 4)) := by
  obtain ⟨i0, hi0, hz0, hz1, hz2⟩ := info_parts bool_info
  have h1 := h0.alloc (.cells #[.bool B] 4)
  obtain ⟨G, ⟨hrow, hG⟩, _, _, hstep⟩ := h1.at_ k hk
  refine wpList_append_own_at _ hgd sx xx _ ho 0 4 i0 _ 1 1 Try.underlying34 hi0 hz0 hz1 hz2 rfl (by omega) v n xs hs hrow ⟨w0.heap.size, 0, none⟩ 1 1 [.bool B] hx rfl (cell_one_new w0 (.bool B) 4) (by intro u hu; rcases List.mem_singleton.1 hu with rfl; rfl)
    (by unfold maxLen; omega) (by omega) (Nat.zero_le _) ?_
  intro v' w' hown hg _ hat
  refine h v' w' (hstep w' (fun b => v'.ownBlock = some b) _ ⟨hown, fun b => Iff.rfl⟩ (fun b hb => ?_) ((Only.refl _ _).grown hg (fun q hq => .inl ((hG q).2 hq))))
  rcases hat with e | e
  · left; exact (hG b).2 (e ▸ hb)
  · right; rw [e] at hb; injection hb with hb; omega
end

end Go.Proofs.Ytoblkjahohlflaa
