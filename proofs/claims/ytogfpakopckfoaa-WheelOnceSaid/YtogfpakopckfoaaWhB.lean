/- The document's wheel in memory: its struct in one block, its list in another one; its Find and Cancel. -/
import Derived.Test.YtogfpakopckfoaaWhA
namespace Go.Proofs.Ytogfpakopckfoaa.Wl
open Go.RowKit Go.Lib
open Sp
set_option linter.unusedVariables false
set_option maxRecDepth 100000

/-- 'x = append(x, ys...)', structs, x not nil. -/
theorem wp_append_l {ops : Array Oper} {rest : List Oper} {o : Oper} {a : Act} {W w : World} {items : List Sp.Item} {Q : Exit → Act → World → Prop} {n p0 g0 : Nat} {xs cs : List Value} {e t : TypeId} {sz bytes : Nat} {z : Value} (hinfo : (Try.prog.info? e).map (fun i => (i.zero, i.size, i.bytes)) = some (some z, sz, bytes)) (hzs : z.cells.size = sz) (hsz : 0 < sz) (hby : bytes ≤ 1000)
    (ht : Try.prog.underlying t = some (.slice e)) (hgd : o.guard = none) (sx xx : Operand)
    (ho : o.op = .call { callee := .builtin .append, args := #[sx, xx], argTypes := #[t, t] }) (hs : a.eval sx = .slice (some ⟨g0, 0, none⟩) n p0) (ad : Addr) (m c : Nat) (hx : a.eval xx = .slice (some ad) m c) (h1 : Sp.Sep W w items) (k : Nat) (hk : items[k]? = some (rowS e sz (.slice (some ⟨g0, 0, none⟩) n p0) n xs)) (hn : n + m < 1000) (hl : cs.length = m * sz)
    (hcs : ∀ j u, cs[j]? = some u → w.cell? (ad.add j) = some u) (h1c : ∀ u ∈ cs, u.oneCell' = true)
    (h : ∀ g' p' w', Sp.Sep W w' (items.set k (rowS e sz (.slice (some ⟨g', 0, none⟩) (n + m) p') (n + m) (xs ++ cs))) → wpList Try.prog ops Q rest (a.put o.dst (.slice (some ⟨g', 0, none⟩) (n + m) p')) w') : wpList Try.prog ops Q (o :: rest) a w := by
  obtain ⟨i0, hi0, hz0, hz1, hz2⟩ := info_parts hinfo
  obtain ⟨G, ⟨hrow, hG⟩, _, _, hstep⟩ := h1.at_ k hk
  have hb : (n + m) * bytes ≤ 140737488355328 := Nat.le_trans (Nat.mul_le_mul (show n + m ≤ 1000 by omega) hby) (by decide)
  refine wpList_append_own_at _ hgd sx xx _ ho 0 e i0 _ sz bytes ht hi0 hz0 hz1 hz2 hzs hsz _ n xs hs hrow ad m c cs hx hl hcs h1c
    (by unfold maxLen; omega) hb (Nat.zero_le _) ?_
  intro v' w' hown hg hnil hat
  have hS := hstep w' (fun b => v'.ownBlock = some b) (rowS e sz v' (n + m) (xs ++ cs)) ⟨hown, fun b => Iff.rfl⟩ (fun b hb => by
    rcases hat with e | e
    · left; exact (hG b).2 (e ▸ hb)
    · right; rw [e] at hb; injection hb with hb; omega) ((Only.refl _ _).grown hg (fun q hq => .inl ((hG q).2 hq)))
  rcases hown.2 with ⟨e1, _⟩ | ⟨g', cap, cur, e1, _⟩
  · have := (hnil.1 e1).1
    cases this
  · subst e1
    exact h g' cap w' hS
theorem new_cells (w : World) (e : TypeId) (cs : List Value) : ∀ j u, cs[j]? = some u → (w.alloc (.cells cs.toArray e)).cell? ((⟨w.heap.size, 0, none⟩ : Addr).add j) = some u := fun j u hu => by
  rw [show (⟨w.heap.size, 0, none⟩ : Addr).add j = ⟨w.heap.size, j, none⟩ by unfold Addr.add; by_cases h : j = 0 <;> simp [h]]
  have := (Sp.Blk.new w e cs.toArray).cell j
  exact this.trans (by simpa using hu)
theorem run_append_zero {P : Program} {w : World} (base : Nat) (t ty e : TypeId) (i : TypeInfo) (size : Nat) (ht : P.underlying t = some (.slice e)) (hi : P.info? e = some i)
    (v : Value) (n : Nat) (xs : List Value) (hown : w.ownsRow base e size v n xs) (c : Nat) :
    (Builtin.append_ #[t, t] ty #[v, .slice none 0 c]).run P w = .ok v w := by
  rcases hown.2 with ⟨rfl, rfl⟩ | ⟨g, cap, cur, rfl, _, _, hnc, _⟩
  · simp [Builtin.append_, run_underlying ht, sizeOf, typeInfo, hi, Builtin.lenOf, Builtin.firstCells]
  · simp [Builtin.append_, run_underlying ht, sizeOf, typeInfo, hi, Builtin.lenOf, Builtin.firstCells, hnc, storeCells]
theorem set_same {α : Type} {l : List α} {k : Nat} {x : α} (h : l[k]? = some x) : l.set k x = l := by
  apply List.ext_getElem?
  intro i
  rw [List.getElem?_set]
  split
  · rename_i e
    subst e
    rw [if_pos (List.getElem?_eq_some_iff.1 h).1, h]
  · rfl

theorem TR.src {w : World} {g o n : Nat} {L : List Tm} (h : TR w (some ⟨g, o, none⟩) n L) : ∀ j u, (L.flatMap tmC)[j]? = some u → w.cell? ((⟨g, o, none⟩ : Addr).add j) = some u := fun j u hu => by
  have hlt := (List.getElem?_eq_some_iff.1 hu).1
  rw [flat_len tmC 2 tmC_len] at hlt
  have h0 : 0 < n := by rw [h.len]; omega
  obtain ⟨g', o', e, hc⟩ := h.c h0
  injection e with e
  injection e with e1 e2 _
  subst e1 e2
  have hj : j / 2 < L.length := by omega
  have h1 := hc (j / 2) _ (List.getElem?_eq_getElem hj)
  have h2 := flat_get tmC 2 tmC_len L (j / 2) _ (j % 2) (List.getElem?_eq_getElem hj) (by omega)
  rw [show j / 2 * 2 + j % 2 = j by omega] at h2
  rw [hu] at h2
  have ea : (⟨g, o, none⟩ : Addr).add j = ⟨g, o + j, none⟩ := by unfold Addr.add; by_cases h : j = 0 <;> simp [h]
  rw [ea]
  rcases Nat.mod_two_eq_zero_or_one j with e | e
  · rw [e] at h2
    have e3 : o + j / 2 * 2 = o + j := by omega
    rw [e3] at h1
    exact h1.1.trans h2.symm
  · rw [e] at h2
    have e3 : o + j / 2 * 2 + 1 = o + j := by omega
    rw [e3] at h1
    exact h1.2.trans h2.symm
/-- 'x = append(x, l...)', l a row of timers that can be read. -/
theorem wp_append_t {ops : Array Oper} {rest : List Oper} {o : Oper} {a : Act} {W w : World} {items : List Sp.Item} {Q : Exit → Act → World → Prop} {n p0 g0 : Nat} {xs : List Value} {L : List Tm} (hgd : o.guard = none) (sx xx : Operand)
    (ho : o.op = .call { callee := .builtin .append, args := #[sx, xx], argTypes := #[27, 27] }) (hs : a.eval sx = .slice (some ⟨g0, 0, none⟩) n p0) (A : Option Addr) (m c : Nat) (hx : a.eval xx = .slice A m c) (h1 : Sp.Sep W w items) (k : Nat) (hk : items[k]? = some (rowS 57 2 (.slice (some ⟨g0, 0, none⟩) n p0) n xs)) (hr : TR w A m L) (hn : n + m < 1000)
    (h : ∀ g' p' w', Sp.Sep W w' (items.set k (rowS 57 2 (.slice (some ⟨g', 0, none⟩) (n + m) p') (n + m) (xs ++ L.flatMap tmC))) → wpList Try.prog ops Q rest (a.put o.dst (.slice (some ⟨g', 0, none⟩) (n + m) p')) w') : wpList Try.prog ops Q (o :: rest) a w := by
  cases A with
  | some ad =>
    by_cases h0 : 0 < m
    · obtain ⟨g, ofs, e, _⟩ := hr.c h0
      injection e with e
      subst e
      exact wp_append_l dtm_infos rfl (by decide) (by decide) Try.underlying27 hgd sx xx ho hs _ m c hx h1 k hk hn (by rw [flat_len tmC 2 tmC_len, ← hr.len]) hr.src (flat_one L) h
    · obtain rfl : m = 0 := by omega
      have hL : L = [] := List.eq_nil_of_length_eq_zero hr.len.symm
      subst hL
      exact wp_append_l dtm_infos rfl (by decide) (by decide) Try.underlying27 hgd sx xx ho hs ad 0 c hx h1 k hk hn rfl (by intro j u hu; simp at hu) (by intro u hu; simp at hu) h
  | none =>
    have hm : m = 0 := by
      rcases Nat.eq_zero_or_pos m with h0 | h0
      · exact h0
      · obtain ⟨g, ofs, e, _⟩ := hr.c h0
        cases e
    subst hm
    have hL : L = [] := List.eq_nil_of_length_eq_zero hr.len.symm
    subst hL
    obtain ⟨i0, hi0, hz0, hz1, hz2⟩ := info_parts dtm_infos
    obtain ⟨G, ⟨hrow, hG⟩, _, _, hstep⟩ := h1.at_ k hk
    have hrun := run_append_zero (P := Try.prog) (w := w) 0 27 o.type 57 i0 2 Try.underlying27 hi0 _ n xs hrow c
    have h2 := h g0 p0 w (by
      rw [Nat.add_zero, List.flatMap_nil, List.append_nil, set_same hk]
      exact h1)
    refine wpList_plain hgd fun K hK => ?_
    unfold Oper.wp execOp
    simp only [ho, resolve, invoke, builtin, Sem.run_bind, Sem.run_pure, Result.andThen_ok, List.map_toArray, List.map_cons, List.map_nil, hs, hx, hrun]
    exact hK _ _ h2

/-! ### The document's wheel -/
theorem TR.same {w w' : World} {A : Option Addr} {n : Nat} {L : List Tm} (h : TR w A n L) (hs : ∀ a, A = some a → 0 < n → w'.heap[a.block]? = w.heap[a.block]?) : TR w' A n L :=
  ⟨h.len, fun h0 => by
    obtain ⟨g, o, e, hc⟩ := h.c h0
    refine ⟨g, o, e, fun i t hi => ?_⟩
    have hg : w'.heap[g]? = w.heap[g]? := hs _ e h0
    exact ⟨(World.cell?_of_block (w := w) hg).trans (hc i t hi).1, (World.cell?_of_block (w := w) hg).trans (hc i t hi).2⟩⟩
def refI (b : Nat) (s : Wh) : Sp.Item :=
  ⟨fun w G => ∃ (A : Option Addr) (n p : Nat), Sp.Blk w b 29 #[.int .u64 s.t, .slice A n p] ∧ TR w A n s.l ∧ n ≤ p ∧ (∀ a, A = some a → 0 < n → G a.block ∧ a.block ≠ b) ∧ G b ∧ ∀ b', G b' → b' < w.heap.size,
   fun ⟨A, n, p, hB, hR, hn, hA, hb, hl⟩ hs hz => ⟨A, n, p, (hs b hb).trans hB, hR.same (fun a e h0 => hs _ (hA a e h0).1), hn, hA, hb, fun b' h => Nat.lt_of_lt_of_le (hl b' h) hz⟩,
   fun ⟨A, n, p, _, _, _, _, _, hl⟩ b h => hl b h⟩
section
variable {W w w1 : World} {items : List Sp.Item} {k b : Nat} {s : Wh}
theorem ref_at (h : Sp.Sep W w items) (hk : items[k]? = some (refI b s)) : ∃ (A : Option Addr) (n p : Nat), Sp.Blk w b 29 #[.int .u64 s.t, .slice A n p] ∧ TR w A n s.l ∧ n ≤ p := by
  obtain ⟨G, ⟨A, n, p, hB, hR, hn, _⟩, _⟩ := h.at_ k hk
  exact ⟨A, n, p, hB, hR, hn⟩
/-- A new list, in a row of one's own, laid into the wheel. -/
theorem ref_put (h : Sp.Sep W w items) (hk : items[k]? = some (refI b s)) {A' : Option Addr} {n' p' : Nat} {L' : List Tm} (hS : Sp.Sep w w1 [rowS 57 2 (.slice A' n' p') n' (L'.flatMap tmC)]) (hn : n' = L'.length) (t' : Int) :
    Sp.Sep W (w1.setRow b #[.int .u64 t', .slice A' n' p']) (items.set k (refI b ⟨t', L'⟩)) := by
  obtain ⟨G, hG, hW, _, hstep⟩ := h.at_ k hk
  obtain ⟨A, n, p, hB, hR, hnp, hA, hb, hl⟩ := hG
  have hT := TR.of_row hS (k := 0) rfl hn
  obtain ⟨H, ⟨hrow, hH⟩, hHn, _, _⟩ := hS.at_ 0 rfl
  have hbl : b < w.heap.size := hB.lt
  have hB1 := hB.later hS.below
  have hA' : ∀ a, A' = some a → w.heap.size ≤ a.block ∧ a.block < w1.heap.size ∧ n' ≤ p' := by
    intro a e
    subst e
    rcases hrow.2 with ⟨e, _⟩ | ⟨g, cap, cur, e, _, hg, hc, _⟩
    · cases e
    · injection e with e1 e2 e3
      injection e1 with e1
      subst e1 e3
      have hg2 := (hH g).2 (by simp [Value.ownBlock])
      exact ⟨hHn g hg2, (Array.getElem?_eq_some_iff.1 hg).1, hc⟩
  have hnp' : n' ≤ p' := by
    cases A' with
    | some a => exact (hA' a rfl).2.2
    | none =>
      rcases hrow.2 with ⟨e, e0⟩ | ⟨g, cap, cur, e, _⟩
      · omega
      · cases e
  refine hstep _ (fun b' => b' = b ∨ (∃ a, A' = some a ∧ a.block = b')) (refI b ⟨t', L'⟩) ⟨A', n', p', hB1.row _, hT.same (fun a e h0 => ?_), hnp', fun a e h0 => ⟨.inr ⟨a, e, rfl⟩, by have := (hA' a e).1; omega⟩, .inl rfl, ?_⟩ ?_ ?_
  · have := (hA' a e).1
    exact setRow_other _ _ _ _ (by omega)
  · rintro b' (rfl | ⟨a, e, rfl⟩)
    · rw [row_size]; exact hB1.lt
    · rw [row_size]; exact (hA' a e).2.1
  · rintro b' (rfl | ⟨a, e, rfl⟩)
    · exact .inl hb
    · exact .inr (hA' a e).1
  · exact ((Only.refl G w).of_below hS.below).setRow (.inl hb) _
/-- Its time alone. -/
theorem ref_time (h : Sp.Sep W w items) (hk : items[k]? = some (refI b s)) {A : Option Addr} {n p : Nat} (hB : Sp.Blk w b 29 #[.int .u64 s.t, .slice A n p]) (t' : Int) :
    Sp.Sep W (w.setRow b #[.int .u64 t', .slice A n p]) (items.set k (refI b ⟨t', s.l⟩)) := by
  obtain ⟨G, hG, hW, _, hstep⟩ := h.at_ k hk
  obtain ⟨A0, n0, p0, hB0, hR, hnp, hA, hb, hl⟩ := hG
  have e := hB.symm.trans hB0
  simp at e
  obtain ⟨rfl, rfl, rfl⟩ := e
  refine hstep _ G (refI b ⟨t', s.l⟩) ⟨A, n, p, hB.row _, hR.same (fun a e h0 => setRow_other _ _ _ _ (hA a e h0).2), hnp, hA, hb, fun b' h => by rw [row_size]; exact hl b' h⟩ (Grew.refl _ _) ((Only.refl G w).setRow (.inl hb) _)
/-- Made new. -/
theorem ref_new (h : Sp.Sep W w items) (t : Int) : Sp.Sep W (w.alloc (.cells #[.int .u64 t, .slice none 0 0] 29)) (items ++ [refI w.heap.size ⟨t, []⟩]) :=
  h.new _ (G := fun b => b = w.heap.size) ⟨none, 0, 0, Sp.Blk.new w _ _, TR.nil _ _, Nat.le_refl _, (fun a e _ => by cases e), rfl, fun b h => by rw [h]; simp⟩ (fun b hb => by omega) (below1 _ _)
end

/-! ### Find -/
def idxI (L : List Tm) (x : Key) : Int := match L.findIdx? (fun t => decide (t.key = x)) with
  | some k => (k : Nat)
  | none => -1
theorem idx_cases {L : List Tm} (h : Ok L) (x : Key) : (idxI L x = -1 ∧ find L x = none) ∨ ∃ k t, idxI L x = ((k : Nat) : Int) ∧ L[k]? = some t ∧ t.key = x ∧ find L x = some t := by
  unfold idxI
  cases hf : L.findIdx? (fun t => decide (t.key = x)) with
  | none =>
    left
    refine ⟨rfl, find_none.2 fun t ht => ?_⟩
    rw [List.findIdx?_eq_none_iff] at hf
    simpa using hf t ht
  | some k =>
    right
    obtain ⟨hk, hp, _⟩ := List.findIdx?_eq_some_iff_getElem.1 hf
    have hx : L[k].key = x := by simpa using hp
    have hk2 : L[k]? = some L[k] := List.getElem?_eq_getElem hk
    exact ⟨k, L[k], rfl, hk2, hx, by rw [← hx]; exact find_at h hk2⟩
theorem idx_hit {L : List Tm} {x : Key} {i : Nat} {t : Tm} (hi : L[i]? = some t) (hx : t.key = x) (hn : ∀ a ∈ L.take i, a.key ≠ x) : idxI L x = ((i : Nat) : Int) := by
  unfold idxI
  obtain ⟨hlt, ht⟩ := List.getElem?_eq_some_iff.1 hi
  have : L.findIdx? (fun t => decide (t.key = x)) = some i := by
    rw [List.findIdx?_eq_some_iff_getElem]
    refine ⟨hlt, by rw [ht]; simpa using hx, fun j hj => ?_⟩
    have hj2 : j < L.length := by omega
    have hm : L[j] ∈ L.take i := List.mem_of_getElem? (i := j) (by rw [List.getElem?_take_of_lt hj]; exact List.getElem?_eq_getElem hj2)
    simpa using hn _ hm
  rw [this]
theorem idx_miss {L : List Tm} {x : Key} (hn : ∀ a ∈ L, a.key ≠ x) : idxI L x = -1 := by
  unfold idxI
  have : L.findIdx? (fun t => decide (t.key = x)) = none := by
    rw [List.findIdx?_eq_none_iff]
    intro a ha
    simpa using hn a ha
  rw [this]
set_option maxHeartbeats 8000000 in
theorem rfind_any {w : World} {b : Nat} {tt : Int} {A : Option Addr} {n p : Nat} {L : List Tm} (i : ByteArray) (hB : Sp.Blk w b 29 #[.int .u64 tt, .slice A n p]) (hR : TR w A n L) (hn : n ≤ 1000) :
    Calls Try.prog 27 #[.pointer (some ⟨b, 0, none⟩), .string i] w fun e w' => e = .returned (.int .i64 (idxI L i.toList)) ∧ w' = w := by
  have HR := Lib.hid hR
  have HN := Lib.hid hn
  have b1 : w.cell? ⟨b, 1, none⟩ = some (.slice A n p) := hB.cell 1
  obtain ⟨z, ez⟩ : ∃ z, idxI L i.toList = z := ⟨_, rfl⟩
  rw [ez]
  have HZ := Lib.hid ez
  clear hB hR hn ez
  go_enter Try.func27, Try.ntmps27
  go_upto_region 2 with fail
  go_loopg [5] n (fun gk s5 wr => ∃ (k : Nat), k ≤ n ∧ gk = n - k ∧ s5 = .int .i64 (k : Nat) ∧ wr = w ∧ Hid (∀ a ∈ L.take k, a.key ≠ i.toList))
  case atStart => exact ⟨0, by omega, rfl, rfl, rfl, Lib.hid (by intro a ha; simp at ha)⟩
  case round =>
    obtain ⟨k, hk, hgk, rfl, rfl, HI⟩ := hrel
    have HGK := Lib.hid hgk
    clear hgk
    by_cases hlt : k < n
    · have hli : (k : Int) < (n : Int) := by omega
      obtain ⟨t, ht⟩ : ∃ t, L[k]? = some t := ⟨_, List.getElem?_eq_getElem (by rw [← HR.out.len]; exact hlt)⟩
      obtain ⟨g, o, rfl, hc⟩ := HR.out.c (by omega)
      have x0 := (hc k t ht).1
      have wi : IntKind.i64.wrap ((k : Int) + 1) = (k : Int) + 1 := IntWalk.i64_in _ (by have := HN.out; omega)
      have HT := Lib.hid ht
      clear hc ht
      by_cases he : t.key = i.toList
      · have q : (t.i.toList == i.toList) = true := by rw [show t.i.toList = t.key from rfl, he]; simp
        have HZ2 : Hid (z = (k : Nat)) := Lib.hid (by rw [← HZ.out]; exact idx_hit HT.out he HI.out)
        clear he
        go_wp2_with fail
        go_ret
        exact ⟨by rw [HZ2.out]; rfl, rfl⟩
      · have q : (t.i.toList == i.toList) = false := by rw [show t.i.toList = t.key from rfl]; simpa using he
        have HI2 : Hid (∀ a ∈ L.take (k + 1), a.key ≠ i.toList) := Lib.hid (by
          rw [take_one HT.out]
          intro a ha
          rcases List.mem_append.1 ha with h | h
          · exact HI.out a h
          · simp at h; subst h; exact he)
        clear he
        go_wp2_with fail
        go_roundg (n - (k + 1))
        case measure => have := HGK.out; omega
        case rel => exact ⟨k + 1, by omega, by have := HGK.out; omega, by go_num, rfl, HI2⟩
    · obtain rfl : n = k := by omega
      have HZ2 : Hid (z = -1) := Lib.hid (by
        rw [← HZ.out]
        have := HI.out
        rw [HR.out.len, List.take_length] at this
        exact idx_miss this)
      go_wp2_with fail
      go_ret
      exact ⟨by rw [HZ2.out]; rfl, rfl⟩
end Go.Proofs.Ytogfpakopckfoaa.Wl
