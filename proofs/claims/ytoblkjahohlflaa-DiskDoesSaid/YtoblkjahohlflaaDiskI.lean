/- A disk, and beside it a row of strings that the law itself has made: the calls' contracts over both; and what a crash makes of the sectors, write by write. -/
import Derived.Test.YtoblkjahohlflaaDiskH
import Derived.Test.YtoblkjahohlflaaMem
namespace Go.Proofs.Ytoblkjahohlflaa
open Go.RowKit Go.MapKept Go.Lib
set_option linter.unusedVariables false

/-- A disk of state s and a row of strings xs, both newer than W, apart from each other; what W had is as it was. -/
def OwnR (W w : World) (d : Nat) (s : St) (v : Value) (n : Nat) (xs : List Value) : Prop :=
  ∃ F, DiskAt w d F s ∧ (∀ b, F b → W.heap.size ≤ b) ∧ Below W.heap.size W w ∧ w.ownsRow W.heap.size 9 1 v n xs ∧ ∀ g, v.ownBlock = some g → ¬ F g

theorem int_eq {k : IntKind} {a b : Int} (h : a = b) : Value.int k a = Value.int k b := by rw [h]
theorem full_still (s x : ByteArray) (w : World) (hs : s.size ≤ maxLen) (hx : fullS s = x) : Calls Try.prog 15 #[.string s] w fun e w' => e = .returned (.string x) ∧ w' = w :=
  (full_is s x w hs hx).mono fun _ _ ⟨he, hw⟩ => ⟨he, hw.symm⟩

section
variable {W w w' : World} {d n : Nat} {s : St} {v : Value} {xs : List Value}
theorem OwnR.below (h : OwnR W w d s v n xs) : Below W.heap.size W w := let ⟨_, _, _, hb, _⟩ := h; hb
theorem OwnR.good (h : OwnR W w d s v n xs) : s.Good := let ⟨_, hd, _⟩ := h; hd.good
theorem OwnR.row (h : OwnR W w d s v n xs) : w.ownsRow W.heap.size 9 1 v n xs := let ⟨_, _, _, _, hr, _⟩ := h; hr
theorem OwnR.own (h : OwnR W w d s v n xs) : Own W w d s := let ⟨F, hd, hF, hb, _⟩ := h; ⟨F, hd, hF, hb⟩
theorem OwnR.later (h : OwnR W w d s v n xs) (hb : Below w.heap.size w w') : OwnR W w' d s v n xs := by
  obtain ⟨F, hd, hF, hW, hr, hn⟩ := h
  exact ⟨F, hd.later hb, hF, hW.trans (hb.mono hW.size), own_same hr (fun g hg => hb.block g (hr.lt g hg).2), hn⟩
theorem OwnR.drew (h : OwnR W w d s v n xs) : OwnR W w.drew d s v n xs := h.later (Below.refl _ _).drew
theorem OwnR.alloc (h : OwnR W w d s v n xs) (o : Obj) : OwnR W (w.alloc o) d s v n xs := h.later ((Below.refl _ _).alloc (Nat.le_refl _) o)
theorem ownR_step {F F' : Nat → Prop} {s' : St} (hF : ∀ b, F b → W.heap.size ≤ b) (hW : Below W.heap.size W w) (hr : w.ownsRow W.heap.size 9 1 v n xs) (hn : ∀ g, v.ownBlock = some g → ¬ F g)
    (D : DiskAt w' d F' s') (hG : Grew w F F') (hO : Only F w w') : OwnR W w' d s' v n xs := by
  refine ⟨F', D, fun b hb => (hG b hb).elim (hF b) (fun e => Nat.le_trans hW.size e), hW.trans (hO.below hW.size hF), own_same hr (fun g hg => hO.block g (hr.lt g hg).2 (hn g hg)), fun g hg hf => ?_⟩
  rcases hG g hf with h1 | h1
  · exact hn g hg h1
  · have := (hr.lt g hg).2; omega

theorem write_r (h : OwnR W w d s v n xs) (i : Int) (x : ByteArray) (hi : s.has i) (hx : x.size = 128) (hd : ¬ s.dead) (hpl : s.pend.length < 1048576) :
    Calls Try.prog 14 #[.pointer (some ⟨d, 0, none⟩), .int .i64 i, .string x] w fun e w' => e = .returned (.int .i64 0) ∧ OwnR W w' d (s.write i x) v n xs := by
  obtain ⟨F, D, hF, hW, hr, hn⟩ := h
  exact (write_yes D i x hi hx hd hpl).mono fun e w' ⟨he, ⟨F', D', hG⟩, hO⟩ => ⟨he, ownR_step hF hW hr hn D' hG hO⟩
theorem flush_r (h : OwnR W w d s v n xs) (hd : ¬ s.dead) (hpl : s.pend.length < 1048576) :
    Calls Try.prog 16 #[.pointer (some ⟨d, 0, none⟩)] w fun e w' => e = .returned (.int .i64 0) ∧ OwnR W w' d s.flush v n xs := by
  obtain ⟨F, D, hF, hW, hr, hn⟩ := h
  exact (flush_yes D hd hpl).mono fun e w' ⟨he, ⟨F', D', hG⟩, hO⟩ => ⟨he, ownR_step hF hW hr hn D' hG hO⟩
theorem read_r (h : OwnR W w d s v n xs) (i : Int) (hi : s.has i) (x : ByteArray) (hx : s.cur i = x) :
    Calls Try.prog 17 #[.pointer (some ⟨d, 0, none⟩), .int .i64 i] w fun e w' => e = .returned (.tuple #[.string x, .int .i64 0]) ∧ OwnR W w' d s v n xs := by
  subst hx
  have ⟨F, D, _⟩ := h
  exact (read_yes D i hi).mono fun e w' ⟨he, hb⟩ => ⟨he, h.later hb⟩
theorem pending_r (h : OwnR W w d s v n xs) (m : Int) (hm : (s.pend.length : Int) = m) :
    Calls Try.prog 18 #[.pointer (some ⟨d, 0, none⟩)] w fun e w' => e = .returned (.int .i64 m) ∧ OwnR W w' d s v n xs := by
  subst hm
  have ⟨F, D, _⟩ := h
  exact (pending_any D).mono fun e w' ⟨he, hw⟩ => ⟨he, hw ▸ h⟩
/-- A crash whose list of bools is an argument, in memory that was there. -/
theorem keep_old {F : Nat → Prop} {A : Option Addr} {m : Nat} {keep : Nat → Bool} (hb : Below W.heap.size W w) (hF : ∀ b, F b → W.heap.size ≤ b) (hc : CellsIn W A m (fun j => .bool (keep j))) (hk : ∀ j, m ≤ j → keep j = false) : KeepIs w F A m keep := by
  refine ⟨fun hm => ?_, hk⟩
  obtain ⟨b, o, e, hlt, hcell⟩ := hc hm
  exact ⟨b, o, e, fun hf => by have := hF b hf; omega, fun j hj => (hb.cell (p := ⟨b, o + j, none⟩) hlt).trans (hcell j hj)⟩
theorem crash_r (h : OwnR W w d s v n xs) (A : Option Addr) (m c : Nat) (hm : m ≤ maxLen) (keep : Nat → Bool) (torn pos : Int) (hc : CellsIn W A m (fun j => .bool (keep j))) (hk : ∀ j, m ≤ j → keep j = false) (hpl : s.pend.length < 1048576) :
    Calls Try.prog 11 #[.pointer (some ⟨d, 0, none⟩), .slice A m c, .int .i64 torn, .int .i64 pos] w fun e w' => e = .returned (.tuple #[]) ∧ OwnR W w' d (s.crash keep torn (clampN pos)) v n xs := by
  obtain ⟨F, D, hF, hW, hr, hn⟩ := h
  exact (crash_any D A m c hm keep torn pos (keep_old hW hF hc hk) hpl).mono fun e w' ⟨he, ⟨F', D', hG⟩, hO⟩ => ⟨he, ownR_step hF hW hr hn D' hG hO⟩
/-- 'want[j] = x'. -/
theorem OwnR.set {g cap : Nat} (h : OwnR W w d s (.slice (some ⟨g, 0, none⟩) n cap) n xs) (j : Nat) (u : Value) : OwnR W (w.setCell ⟨g, j, none⟩ u) d s (.slice (some ⟨g, 0, none⟩) n cap) n (xs.set j u) := by
  obtain ⟨F, D, hF, hW, hr, hn⟩ := h
  have hg := hn g rfl
  refine ⟨F, D.far (G := fun b => b = g) ((Only.refl (fun b => b = g) w).setCell (p := ⟨g, j, none⟩) (.inl rfl) u) (fun i hi e => hg (by rw [← e]; exact hi)), hF, hW.setCell (hr.lt g rfl).1 _, (hr.stored j u).1, hn⟩
theorem OwnR.cell {g cap : Nat} (h : OwnR W w d s (.slice (some ⟨g, 0, none⟩) n cap) n xs) (j : Nat) (u : Value) (hj : xs[j]? = some u) : w.cell? ⟨g, j, none⟩ = some u := by
  have := h.row.cells (g := g) rfl j u hj
  rw [Addr.add_mid, Nat.zero_add] at this
  exact this
theorem OwnR.free {g cap : Nat} (h : OwnR W w d s (.slice (some ⟨g, 0, none⟩) n cap) n xs) (j : Nat) : w.frozen? ⟨g, j, none⟩ = false := h.row.frozenAt j
end

/-! ### What a crash makes of the sectors -/
theorem crashTo_append {keep : Nat → Bool} {torn : Int} {n : Nat} {h : Int → ByteArray} (l r : List (Int × ByteArray)) : ∀ k, k ≤ l.length → crashTo keep torn n (l ++ r) h k = crashTo keep torn n l h k
  | 0, _ => rfl
  | k + 1, hk => by
    have ih := crashTo_append (keep := keep) (torn := torn) (n := n) (h := h) l r k (by omega)
    have e : (l ++ r)[k]? = l[k]? := List.getElem?_append_left (by omega)
    simp only [crashTo, e, ih]

theorem over_size {l : List (Int × ByteArray)} (hl : ∀ p ∈ l, p.2.size = 128) (i : Int) (x : ByteArray) (hx : x.size = 128) : (over l i x).size = 128 := by
  induction l generalizing x with
  | nil => exact hx
  | cons p r ih =>
    show (over r i (if p.1 = i then p.2 else x)).size = 128
    refine ih (fun q hq => hl q (by simp [hq])) _ ?_
    split
    · exact hl p (by simp)
    · exact hx
theorem crashTo_all {keep : Nat → Bool} {torn : Int} {n : Nat} {l : List (Int × ByteArray)} {h : Int → ByteArray} (hk : ∀ k, k < l.length → keep k = true) (hl : ∀ p ∈ l, p.2.size = 128) (hh : ∀ i, (h i).size = 128) (i : Int) :
    ∀ k, k ≤ l.length → crashTo keep torn n l h k i = over (l.take k) i (h i)
  | 0, _ => rfl
  | k + 1, hkl => by
    have ih := crashTo_all (keep := keep) (torn := torn) (n := n) hk hl hh i k (by omega)
    have hlt : k < l.length := by omega
    have e : l[k]? = some l[k] := List.getElem?_eq_getElem hlt
    have hm : l[k] ∈ l := List.getElem_mem hlt
    rw [crashTo_step e, hk k hlt, List.take_succ_eq_append_getElem hlt, over_snoc]
    simp only [if_true, do1]
    by_cases ej : i = l[k].1
    · rw [if_pos ej, if_pos ej.symm, mix_all _ _ (hl _ hm) (crashTo_size hh hl _ _)]
    · rw [if_neg ej, if_neg (fun h => ej h.symm), ih]
theorem flush_held {s : St} (hg : s.Good) (i : Int) : s.flush.held i = s.cur i := by
  show crashTo (fun _ => true) 0 0 s.pend s.held s.pend.length i = _
  rw [crashTo_all (fun _ _ => rfl) (fun p hp => (hg.pend p hp).1) hg.held i _ (Nat.le_refl _), List.take_length]
  rfl
theorem write_cur (s : St) (i : Int) (x : ByteArray) (j : Int) : (s.write i x).cur j = if i = j then x else s.cur j := by
  show over (s.pend ++ [(i, x)]) j (s.held j) = _
  rw [over_snoc]
  rfl
theorem cur_size {s : St} (hg : s.Good) (i : Int) : (s.cur i).size = 128 := over_size (fun p hp => (hg.pend p hp).1) i _ (hg.held i)
theorem mix_extract (q : Nat) (a b : ByteArray) (hb : b.size = 128) : mix q a b = a.extract 0 q ++ b.extract q 128 := by
  apply Go.WideShapes.bytes_inj
  rw [ByteArray.data_append, Array.toList_append, Go.Lib.extract_data, Go.Lib.extract_data]
  have hl := len_data b
  show a.data.toList.take q ++ b.data.toList.drop q = _
  rw [List.drop_zero, Nat.sub_zero]
  congr 1
  rw [List.take_of_length_le]
  rw [List.length_drop]
  omega

/-- The row of strings, with one more behind. -/
theorem append_r {W w w' : World} {d n : Nat} {s : St} {v v' : Value} {xs ys : List Value} {m : Nat} (h : OwnR W w d s v n xs) (hr : w'.ownsRow W.heap.size 9 1 v' m ys) (hg : w.grownBy w' v.ownBlock) (hat : v'.ownBlock = v.ownBlock ∨ v'.ownBlock = some w.heap.size) : OwnR W w' d s v' m ys := by
  obtain ⟨F, D, hF, hW, hr0, hn⟩ := h
  have ho : Only (fun i => v.ownBlock = some i) w w' := (Only.refl _ w).grown hg (fun k hk => .inl hk)
  refine ⟨F, D.far ho (fun i hi e => hn i e hi), hF, hW.grown hg hW.size (fun k hk => (hr0.lt k hk).1), hr, fun g hg2 hf => ?_⟩
  rcases hat with e | e
  · rw [e] at hg2; exact hn g hg2 hf
  · rw [e] at hg2
    injection hg2 with hg2
    have := D.lt g hf
    omega
theorem own_lit {W w : World} {d n : Nat} {s : St} (h : Own W w d s) (cs : Array Value) (hs : cs.size = n) (hn : n ≤ maxLen) :
    OwnR W (w.alloc (.cells cs 9)) d s (.slice (some ⟨w.heap.size, 0, none⟩) n n) n cs.toList := by
  obtain ⟨F, D, hF, hW⟩ := h
  refine ⟨F, D.alloc _, hF, hW.alloc hW.size _, World.ownsRow_lit w cs n hW.size hn (by rw [Nat.mul_one]; exact hs), fun g hg hf => ?_⟩
  have : w.heap.size = g := by simpa [Value.ownBlock] using hg
  have := D.lt g hf
  omega

theorem str_info : (Try.prog.info? 9).map (fun i => (i.zero, i.size, i.bytes)) = some (some (.string ByteArray.empty), 1, 16) := by kernel_rfl
/-- 'want = append(want, S)'. -/
theorem wp_append_str {ops : Array Oper} {rest : List Oper} {o : Oper} {a : Act} {W w0 : World} {Q : Exit → Act → World → Prop} {d n : Nat} {s : St} {v : Value} {xs : List Value} {S : ByteArray} (hgd : o.guard = none) (sx xx : Operand)
    (ho : o.op = .call { callee := .builtin .append, args := #[sx, xx], argTypes := #[47, 47] }) (hs : a.eval sx = v) (hx : a.eval xx = .slice (some ⟨w0.heap.size, 0, none⟩) 1 1) (h0 : OwnR W w0 d s v n xs) (hn : n < 1000)
    (h : ∀ v' w', OwnR W w' d s v' (n + 1) (xs ++ [.string S]) → wpList Try.prog ops Q rest (a.put o.dst v') w') : wpList Try.prog ops Q (o :: rest) a (w0.alloc (.cells #[.string S] 9)) := by
  obtain ⟨i0, hi0, hz0, hz1, hz2⟩ := info_parts str_info
  have h1 := h0.alloc (.cells #[.string S] 9)
  refine wpList_append_own_at _ hgd sx xx _ ho W.heap.size 9 i0 _ 1 16 Try.underlying47 hi0 hz0 hz1 hz2 rfl (by omega) v n xs hs h1.row ⟨w0.heap.size, 0, none⟩ 1 1 [.string S] hx rfl (cell_one_new w0 (.string S) 9) (by intro u hu; rcases List.mem_singleton.1 hu with rfl; rfl)
    (by unfold maxLen; omega) (by omega) h1.below.size ?_
  intro v' w' hown hg _ hat
  exact h v' w' (append_r h1 hown hg hat)

/-- Each write is done whole: kept, or torn at its end. -/
theorem crashTo_full {keep : Nat → Bool} {torn : Int} {n : Nat} {l : List (Int × ByteArray)} {h : Int → ByteArray} (hk : ∀ k, k < l.length → keep k = true ∨ ((k : Int) = torn ∧ n = 128)) (hl : ∀ p ∈ l, p.2.size = 128) (hh : ∀ i, (h i).size = 128) (i : Int) :
    ∀ k, k ≤ l.length → crashTo keep torn n l h k i = over (l.take k) i (h i)
  | 0, _ => rfl
  | k + 1, hkl => by
    have ih := crashTo_full (keep := keep) (torn := torn) (n := n) hk hl hh i k (by omega)
    have hlt : k < l.length := by omega
    have e : l[k]? = some l[k] := List.getElem?_eq_getElem hlt
    have hm : l[k] ∈ l := List.getElem_mem hlt
    have hst : crashTo keep torn n l h (k + 1) = do1 (crashTo keep torn n l h k) l[k] 128 := by
      rw [crashTo_step e]
      rcases hk k hlt with h1 | ⟨h1, h2⟩
      · rw [h1]; rfl
      · rw [if_pos h1, h2]; split <;> rfl
    rw [hst, List.take_succ_eq_append_getElem hlt, over_snoc]
    simp only [do1]
    by_cases ej : i = l[k].1
    · rw [if_pos ej, if_pos ej.symm, mix_all _ _ (hl _ hm) (crashTo_size hh hl _ _)]
    · rw [if_neg ej, if_neg (fun h => ej h.symm), ih]
theorem crash_full {s : St} (hg : s.Good) {keep : Nat → Bool} {torn : Int} {n : Nat} (hk : ∀ k, k < s.pend.length → keep k = true ∨ ((k : Int) = torn ∧ n = 128)) (i : Int) : (s.crash keep torn n).cur i = s.cur i := by
  show crashTo keep torn n s.pend s.held s.pend.length i = _
  rw [crashTo_full hk (fun p hp => (hg.pend p hp).1) hg.held i _ (Nat.le_refl _), List.take_length]
  rfl

end Go.Proofs.Ytoblkjahohlflaa
