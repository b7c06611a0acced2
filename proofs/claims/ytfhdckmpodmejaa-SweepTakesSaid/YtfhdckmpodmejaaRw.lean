/- Rows of one cell that can be read; rows of one's own that are written, and appended to; two rows of numbers held against each other. -/
import Derived.Test.YtfhdckmpodmejaaSpA
import Derived.Test.YtfhdckmpodmejaaMem
import Derived.BigQuiet
import Derived.IntWalk
import Derived.Sort.Walk0
import Derived.WalkSmall
import Derived.Deep.LoopGhost
import Derived.Deep.DeepCutAuto
import Derived.Deep.WholeRow
import Derived.Lib.SmallJoins
import Derived.Lib.MinMax
import Derived.Lib.Hide
import Derived.Lib.BufferWrite
import Derived.Lib.AppendZeros
import Derived.Room.AppendZeros
namespace Go.Proofs.Ytfhdckmpodmejaa.Rw
open Go.ChangeShapes Go.WideShapes Go.ChangeAt Go.RowKit Go.Lib Go.Joins Go.Deep
open Sp
set_option linter.unusedVariables false
set_option maxRecDepth 100000

/-- One-cell values that can be read. -/
structure VR (w : World) (A : Option Addr) (n : Nat) (V : List Value) : Prop where
  len : n = V.length
  c : 0 < n → ∃ g o, A = some ⟨g, o, none⟩ ∧ ∀ i v, V[i]? = some v → w.cell? ⟨g, o + i, none⟩ = some v
theorem VR.later {w w' : World} {A : Option Addr} {n : Nat} {V : List Value} (h : VR w A n V) (hb : Below w.heap.size w w') : VR w' A n V :=
  ⟨h.len, fun h0 => by
    obtain ⟨g, o, e, hc⟩ := h.c h0
    exact ⟨g, o, e, fun i v hi => (hb.cell (World.block_lt_of_cell? _ _ (hc i v hi))).trans (hc i v hi)⟩⟩
theorem VR.of_row {W w : World} {items : List Sp.Item} {k : Nat} {T : TypeId} {A : Option Addr} {n p : Nat} {V : List Value} (h : Sp.Sep W w items) (hk : items[k]? = some (rowS T 1 (.slice A n p) n V)) (hn : n = V.length) : VR w A n V :=
  ⟨hn, fun h0 => by
    obtain ⟨g, e, hc⟩ := rows_cell h hk h0
    refine ⟨g, 0, e, fun i v hi => ?_⟩
    have hlt : i < n := by rw [hn]; exact (List.getElem?_eq_some_iff.1 hi).1
    rw [Nat.zero_add, hc i (by omega)]
    exact hi⟩
theorem VR.nil (w : World) (A : Option Addr) : VR w A 0 [] := ⟨rfl, fun h => by omega⟩
def bv (B : List Bool) : List Value := B.map Value.bool
def iv (l : List Int) : List Value := l.map (Value.int .i64)
theorem bv_len (B : List Bool) : (bv B).length = B.length := by unfold bv; rw [List.length_map]
theorem iv_len (l : List Int) : (iv l).length = l.length := by unfold iv; rw [List.length_map]
theorem bv_at {B : List Bool} {i : Nat} {b : Bool} (h : B[i]? = some b) : (bv B)[i]? = some (.bool b) := by unfold bv; rw [List.getElem?_map, h]; rfl
theorem iv_at {l : List Int} {i : Nat} {b : Int} (h : l[i]? = some b) : (iv l)[i]? = some (.int .i64 b) := by unfold iv; rw [List.getElem?_map, h]; rfl
theorem below_drewN {B : Nat} {a w : World} (h : Below B a w) (n : Nat) : Below B a (w.drewN n) := ⟨h.os, h.tape, h.output, h.size, h.block⟩
theorem below1 (w : World) (o : Obj) : Below w.heap.size w (w.alloc o) := (Below.refl _ _).alloc (Nat.le_refl _) _

theorem ret_bool {a b : Bool} (h : a = b) : Ending.returned (.bool a) = Ending.returned (.bool b) := by rw [h]
theorem u64_of {n : Int} (h : (Lit.int .u64 n).wf = true) : 0 ≤ n ∧ n < 18446744073709551616 := by
  simp [Lit.wf] at h
  have h2 : n ≤ 18446744073709551615 := h.2
  exact ⟨h.1, by omega⟩
section
variable {W w : World} {items : List Sp.Item}
/-- A row of one's own lies in a block. -/
theorem rows_blk (h : Sp.Sep W w items) {k : Nat} {t : TypeId} {sz : Nat} {g : Nat} {p n : Nat} {xs : List Value} (hk : items[k]? = some (rowS t sz (.slice (some ⟨g, 0, none⟩) n p) n xs)) : ∃ cur, Sp.Blk w g t cur := by
  obtain ⟨G, ⟨hrow, _⟩, _⟩ := h.at_ k hk
  rcases hrow.2 with ⟨h1, _⟩ | ⟨g', cap, cur, e, _, hg, _⟩
  · cases h1
  · injection e with e1 e2 e3
    injection e1 with e1
    injection e1 with e1
    subst e1
    exact ⟨cur, hg⟩
theorem rows_put (h : Sp.Sep W w items) {k : Nat} {t : TypeId} {sz : Nat} {g : Nat} {p n : Nat} {xs : List Value} (hk : items[k]? = some (rowS t sz (.slice (some ⟨g, 0, none⟩) n p) n xs)) (i : Nat) (u : Value) :
    Sp.Sep W (w.setCell ⟨g, i, none⟩ u) (items.set k (rowS t sz (.slice (some ⟨g, 0, none⟩) n p) n (xs.set i u))) := by
  obtain ⟨G, ⟨ho, hG⟩, _, _, put⟩ := h.at_ k hk
  exact put _ G _ ⟨(ho.stored i u).1, hG⟩ (Grew.refl _ _) ((Only.refl _ w).setCell (.inl ((hG g).2 rfl)) u)
end
theorem int_infos : (Try.prog.info? 3).map (fun i => (i.zero, i.size, i.bytes)) = some (some (.int .i64 0), 1, 8) := by kernel_rfl
theorem iv_snoc (B : List Int) (b : Int) : iv (B ++ [b]) = iv B ++ [.int .i64 b] := by unfold iv; rw [List.map_append]; rfl
set_option maxHeartbeats 1000000 in
/-- Two rows of numbers. -/
theorem rints_any (A : Option Addr) (m p : Nat) (B : Option Addr) (k q : Nat) (o n : List Int) (w : World) (hA : VR w A m (iv o)) (hB : VR w B k (iv n)) (hm : m ≤ 1000) :
    Calls Try.prog 27 #[.slice A m p, .slice B k q] w fun e w' => e = .returned (.bool (decide (o = n))) ∧ Below w.heap.size w w' := by
  have ho := Lib.hid (show m = o.length by rw [← iv_len]; exact hA.len)
  have hn := Lib.hid (show k = n.length by rw [← iv_len]; exact hB.len)
  by_cases hmk : k = m
  case neg =>
    have h4 : ((m : Int) != (k : Int)) = true := by simp; omega
    have hd : decide (o = n) = false := decide_eq_false (fun e => hmk (by rw [ho.out, hn.out, e]))
    rw [hd]
    go_enter Try.func27, Try.ntmps27
    go_wp2_with fail
    go_ret
    exact ⟨rfl, Below.refl _ _⟩
  case pos =>
  subst hmk
  by_cases hz : k = 0
  · subst hz
    have h1 := List.length_eq_zero_iff.1 ho.out.symm
    have h2 := List.length_eq_zero_iff.1 hn.out.symm
    subst h1 h2
    go_enter Try.func27, Try.ntmps27
    go_wp2_with fail
    refine wp_loop_rounds 1 ?_
    rw [rounds_succ]
    go_wp2_with fail
    go_ret
    exact ⟨rfl, Below.refl _ _⟩
  obtain ⟨ba, oa, rfl, ca⟩ := hA.c (by omega)
  obtain ⟨bb, ob, rfl, cb⟩ := hB.c (by omega)
  have CA := Lib.hid ca
  have CB := Lib.hid cb
  have h4 : ((k : Int) != (k : Int)) = false := by simp
  clear ca cb hA hB
  go_enter Try.func27, Try.ntmps27
  go_wp2_with fail
  go_loopg [5] k (fun gk s5 wr => ∃ i : Nat, i ≤ k ∧ gk = k - i ∧ s5 = .int .i64 i ∧ Hid (Below w.heap.size w wr) ∧ Hid (o.take i = n.take i))
  case atStart => exact ⟨0, by omega, rfl, rfl, Lib.hid (Below.refl _ _), Lib.hid (by simp)⟩
  case round =>
    obtain ⟨i, hi, hgk, rfl, HB, HT⟩ := hrel
    have HG := Lib.hid hgk
    clear hgk
    by_cases hlt : i < k
    · have hlti : (i : Int) < (k : Int) := by omega
      have wi : IntKind.i64.wrap ((i : Int) + 1) = (i : Int) + 1 := IntWalk.i64_in _ (by omega)
      obtain ⟨x, hx⟩ : ∃ x, o[i]? = some x := ⟨_, List.getElem?_eq_getElem (by have := ho.out; omega)⟩
      obtain ⟨y, hy⟩ : ∃ y, n[i]? = some y := ⟨_, List.getElem?_eq_getElem (by have := hn.out; omega)⟩
      have hc1 := CA.out i _ (iv_at hx)
      have hc2 := CB.out i _ (iv_at hy)
      have c1 := (HB.out.cell (World.block_lt_of_cell? _ _ hc1)).trans hc1
      have c2 := (HB.out.cell (World.block_lt_of_cell? _ _ hc2)).trans hc2
      have X := Lib.hid hx
      have Y := Lib.hid hy
      clear hx hy hc1 hc2
      have HB2 := Lib.hid (HB.out.trans ((Below.refl wr.heap.size wr).drew.mono HB.out.size))
      by_cases hxy : x = y
      · subst hxy
        have HT2 : Hid (o.take (i + 1) = n.take (i + 1)) := Lib.hid (by rw [List.take_add_one, List.take_add_one, HT.out, X.out, Y.out])
        go_wp2_with fail
        go_region
        go_wp2_with fail
        go_roundg (k - (i + 1))
        case measure => have := HG.out; omega
        case rel => exact ⟨i + 1, by omega, rfl, by go_num, HB2, HT2⟩
      · have hd : decide (o = n) = false := decide_eq_false (fun e => hxy (by have := X.out; rw [e, Y.out] at this; injection this with this; exact this.symm))
        have HD := Lib.hid hd
        have hne : (x != y) = true := by simp; exact hxy
        clear hd
        go_wp2_with fail
        go_region
        go_wp2_with fail
        go_ret
        exact ⟨ret_bool HD.out.symm, HB2.out⟩
    · obtain rfl : i = k := by omega
      have hlti : ¬ (i : Int) < (i : Int) := by omega
      have hd : decide (o = n) = true := by
        rw [decide_eq_true_iff]
        have := HT.out
        rw [List.take_of_length_le (by have := ho.out; omega), List.take_of_length_le (by have := hn.out; omega)] at this
        exact this
      have HD := Lib.hid hd
      clear hd
      go_wp2_with fail
      go_ret
      exact ⟨ret_bool HD.out.symm, HB.out⟩
theorem take_one {α : Type} {L : List α} {i : Nat} {r : α} (h : L[i]? = some r) : L.take (i + 1) = L.take i ++ [r] := by rw [List.take_add_one, h]; rfl
/-- A slice's room. -/
theorem rows_room {W w : World} {items : List Sp.Item} (h : Sp.Sep W w items) {k : Nat} {t : TypeId} {sz : Nat} {A : Option Addr} {p n m : Nat} {xs : List Value} (hk : items[k]? = some (rowS t sz (.slice A n p) m xs)) : n ≤ p := by
  obtain ⟨G, ⟨hrow, _⟩, _⟩ := h.at_ k hk
  rcases hrow.2 with ⟨e, _⟩ | ⟨g', cap, cur, e, _, _, h1, _⟩
  · injection e with e1 e2 e3; omega
  · injection e with e1 e2 e3; omega
theorem run_append_zero {P : Program} {w : World} (base : Nat) (t ty e : TypeId) (i : TypeInfo) (size : Nat) (ht : P.underlying t = some (.slice e)) (hi : P.info? e = some i)
    (v : Value) (n : Nat) (xs : List Value) (hown : w.ownsRow base e size v n xs) (c : Nat) :
    (Builtin.append_ #[t, t] ty #[v, .slice none 0 c]).run P w = .ok v w := by
  rcases hown.2 with ⟨rfl, rfl⟩ | ⟨g, cap, cur, rfl, _, _, hnc, _⟩
  · simp [Builtin.append_, run_underlying ht, sizeOf, typeInfo, hi, Builtin.lenOf, Builtin.firstCells]
  · simp [Builtin.append_, run_underlying ht, sizeOf, typeInfo, hi, Builtin.lenOf, Builtin.firstCells, hnc, storeCells]
theorem set_same {α : Type} {l : List α} {k : Nat} {x : α} (h : l[k]? = some x) : l.set k x = l := by
  apply List.ext_getElem?
  intro i
  rw [List.getElem?_set]
  split
  · rename_i e
    subst e
    rw [if_pos (List.getElem?_eq_some_iff.1 h).1, h]
  · rfl
/-- 'x = append(x, ys...)', structs, x not nil. -/
theorem wp_append_l {ops : Array Oper} {rest : List Oper} {o : Oper} {a : Act} {W w : World} {items : List Sp.Item} {Q : Exit → Act → World → Prop} {n p0 g0 : Nat} {xs cs : List Value} {e t : TypeId} {sz bytes : Nat} {z : Value} (hinfo : (Try.prog.info? e).map (fun i => (i.zero, i.size, i.bytes)) = some (some z, sz, bytes)) (hzs : z.cells.size = sz) (hsz : 0 < sz) (hby : bytes ≤ 1000)
    (ht : Try.prog.underlying t = some (.slice e)) (hgd : o.guard = none) (sx xx : Operand)
    (ho : o.op = .call { callee := .builtin .append, args := #[sx, xx], argTypes := #[t, t] }) (hs : a.eval sx = .slice (some ⟨g0, 0, none⟩) n p0) (ad : Addr) (m c : Nat) (hx : a.eval xx = .slice (some ad) m c) (h1 : Sp.Sep W w items) (k : Nat) (hk : items[k]? = some (rowS e sz (.slice (some ⟨g0, 0, none⟩) n p0) n xs)) (hn : n + m < 1000) (hl : cs.length = m * sz)
    (hcs : ∀ j u, cs[j]? = some u → w.cell? (ad.add j) = some u) (h1c : ∀ u ∈ cs, u.oneCell' = true)
    (h : ∀ g' p' w', Sp.Sep W w' (items.set k (rowS e sz (.slice (some ⟨g', 0, none⟩) (n + m) p') (n + m) (xs ++ cs))) → wpList Try.prog ops Q rest (a.put o.dst (.slice (some ⟨g', 0, none⟩) (n + m) p')) w') : wpList Try.prog ops Q (o :: rest) a w := by
  obtain ⟨i0, hi0, hz0, hz1, hz2⟩ := info_parts hinfo
  obtain ⟨G, ⟨hrow, hG⟩, _, _, hstep⟩ := h1.at_ k hk
  have hb : (n + m) * bytes ≤ 140737488355328 := Nat.le_trans (Nat.mul_le_mul (show n + m ≤ 1000 by omega) hby) (by decide)
  refine wpList_append_own_at _ hgd sx xx _ ho 0 e i0 _ sz bytes ht hi0 hz0 hz1 hz2 hzs hsz _ n xs hs hrow ad m c cs hx hl hcs h1c
    (by unfold maxLen; omega) hb (Nat.zero_le _) ?_
  intro v' w' hown hg hnil hat
  have hS := hstep w' (fun b => v'.ownBlock = some b) (rowS e sz v' (n + m) (xs ++ cs)) ⟨hown, fun b => Iff.rfl⟩ (fun b hb => by
    rcases hat with e | e
    · left; exact (hG b).2 (e ▸ hb)
    · right; rw [e] at hb; injection hb with hb; omega) ((Only.refl _ _).grown hg (fun q hq => .inl ((hG q).2 hq)))
  rcases hown.2 with ⟨e1, _⟩ | ⟨g', cap, cur, e1, _⟩
  · have := (hnil.1 e1).1
    cases this
  · subst e1
    exact h g' cap w' hS
theorem VR.src {w : World} {g o n : Nat} {V : List Value} (h : VR w (some ⟨g, o, none⟩) n V) : ∀ j u, V[j]? = some u → w.cell? ((⟨g, o, none⟩ : Addr).add j) = some u := fun j u hu => by
  have hlt := (List.getElem?_eq_some_iff.1 hu).1
  have h0 : 0 < n := by rw [h.len]; omega
  obtain ⟨g', o', e, hc⟩ := h.c h0
  injection e with e
  injection e with e1 e2 _
  subst e1 e2
  rw [show (⟨g, o, none⟩ : Addr).add j = ⟨g, o + j, none⟩ by unfold Addr.add; by_cases h : j = 0 <;> simp [h]]
  exact hc j u hu
theorem iv_one (l : List Int) : ∀ u ∈ iv l, u.oneCell' = true := fun u hu => by
  obtain ⟨x, _, rfl⟩ := List.mem_map.1 hu
  rfl
/-- 'x = append(x, l...)', l a row of numbers that can be read. -/
theorem wp_append_i {ops : Array Oper} {rest : List Oper} {o : Oper} {a : Act} {W w : World} {items : List Sp.Item} {Q : Exit → Act → World → Prop} {n p0 g0 : Nat} {xs : List Value} {l : List Int} (hgd : o.guard = none) (sx xx : Operand)
    (ho : o.op = .call { callee := .builtin .append, args := #[sx, xx], argTypes := #[23, 23] }) (hs : a.eval sx = .slice (some ⟨g0, 0, none⟩) n p0) (A : Option Addr) (m c : Nat) (hx : a.eval xx = .slice A m c) (h1 : Sp.Sep W w items) (k : Nat) (hk : items[k]? = some (rowS 3 1 (.slice (some ⟨g0, 0, none⟩) n p0) n xs)) (hr : VR w A m (iv l)) (hn : n + m < 1000)
    (h : ∀ g' p' w', Sp.Sep W w' (items.set k (rowS 3 1 (.slice (some ⟨g', 0, none⟩) (n + m) p') (n + m) (xs ++ iv l))) → wpList Try.prog ops Q rest (a.put o.dst (.slice (some ⟨g', 0, none⟩) (n + m) p')) w') : wpList Try.prog ops Q (o :: rest) a w := by
  cases A with
  | some ad =>
    by_cases h0 : 0 < m
    · obtain ⟨g, ofs, e, _⟩ := hr.c h0
      injection e with e
      subst e
      exact wp_append_l int_infos rfl (by decide) (by decide) Try.underlying23 hgd sx xx ho hs _ m c hx h1 k hk hn (by rw [hr.len]; omega) hr.src (iv_one l) h
    · obtain rfl : m = 0 := by omega
      have hL : l = [] := List.eq_nil_of_length_eq_zero (by rw [← iv_len]; exact hr.len.symm)
      subst hL
      exact wp_append_l int_infos rfl (by decide) (by decide) Try.underlying23 hgd sx xx ho hs ad 0 c hx h1 k hk hn rfl (by intro j u hu; simp [iv] at hu) (by intro u hu; simp [iv] at hu) h
  | none =>
    have hm : m = 0 := by
      rcases Nat.eq_zero_or_pos m with h0 | h0
      · exact h0
      · obtain ⟨g, ofs, e, _⟩ := hr.c h0
        cases e
    subst hm
    have hL : l = [] := List.eq_nil_of_length_eq_zero (by rw [← iv_len]; exact hr.len.symm)
    subst hL
    obtain ⟨i0, hi0, hz0, hz1, hz2⟩ := info_parts int_infos
    obtain ⟨G, ⟨hrow, hG⟩, _, _, hstep⟩ := h1.at_ k hk
    have hrun := run_append_zero (P := Try.prog) (w := w) 0 23 o.type 3 i0 1 Try.underlying23 hi0 _ n xs hrow c
    have h2 := h g0 p0 w (by
      rw [Nat.add_zero, show iv [] = [] from rfl, List.append_nil, set_same hk]
      exact h1)
    refine wpList_plain hgd fun K hK => ?_
    unfold Oper.wp execOp
    simp only [ho, resolve, invoke, builtin, Sem.run_bind, Sem.run_pure, Result.andThen_ok, List.map_toArray, List.map_cons, List.map_nil, hs, hx, hrun]
    exact hK _ _ h2
/-- The first ones, and the rest. -/
theorem VR.cut {w : World} {A : Option Addr} {n : Nat} {V : List Value} (h : VR w A n V) (m : Nat) (hm : m ≤ n) : VR w A m (V.take m) :=
  ⟨by rw [List.length_take, ← h.len]; omega, fun h0 => by
    obtain ⟨g, o, e, hc⟩ := h.c (by omega)
    exact ⟨g, o, e, fun i v hi => hc i v (by
      have hlt : i < m := by have := (List.getElem?_eq_some_iff.1 hi).1; rw [List.length_take] at this; omega
      rwa [List.getElem?_take_of_lt hlt] at hi)⟩⟩
theorem iv_take (l : List Int) (m : Nat) : (iv l).take m = iv (l.take m) := by unfold iv; rw [List.map_take]
/-- A row of numbers among the arguments. -/
theorem VR.of_cells {w : World} {A : Option Addr} {n : Nat} {f : Nat → Int} (h : CellsIn w A n (fun j => .int .i64 (f j))) : VR w A n (iv ((List.range n).map f)) :=
  ⟨by rw [iv_len]; simp, fun h0 => by
    obtain ⟨g, o, e, _, hc⟩ := h h0
    refine ⟨g, o, e, fun i v hi => ?_⟩
    have hlt := (List.getElem?_eq_some_iff.1 hi).1
    rw [iv_len, List.length_map, List.length_range] at hlt
    rw [hc i hlt, ← hi]
    unfold iv
    simp [hlt]⟩
end Go.Proofs.Ytfhdckmpodmejaa.Rw
