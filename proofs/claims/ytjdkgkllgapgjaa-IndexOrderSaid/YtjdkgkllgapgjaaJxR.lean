/- Rows of records, records among the arguments; the statements' own Ref and Cut of one record. -/
import Derived.Test.YtjdkgkllgapgjaaIxM
import Derived.Test.YtjdkgkllgapgjaaSpA
import Derived.Test.YtjdkgkllgapgjaaMem
import Derived.BigQuiet
import Derived.IntWalk
import Derived.Sort.Walk0
import Derived.WalkSmall
import Derived.Deep.LoopGhost
import Derived.Deep.DeepCutAuto
import Derived.Deep.WholeRow
import Derived.Lib.SmallJoins
namespace Go.Proofs.Ytjdkgkllgapgjaa.Re
open Go.RowKit Go.Lib
open Sp
set_option linter.unusedVariables false
set_option maxRecDepth 100000

set_option maxRecDepth 100000

/-- A record's cells. -/
def rcC (r : Rec) : List Value := [.int .u64 r.l, .int .u32 r.e, .int .i64 r.k, .int .u64 r.v, .int .u64 r.d, .string r.i, .string r.a]
theorem rcC_len (r : Rec) : (rcC r).length = 7 := rfl
/-- Records that can be read. -/
structure RR (w : World) (A : Option Addr) (n : Nat) (L : List Rec) : Prop where
  len : n = L.length
  c : 0 < n → ∃ g o, A = some ⟨g, o, none⟩ ∧ ∀ i j r, L[i]? = some r → j < 7 → w.cell? ⟨g, o + i * 7 + j, none⟩ = (rcC r)[j]?
theorem RR.later {w w' : World} {A : Option Addr} {n : Nat} {L : List Rec} (h : RR w A n L) (hb : Below w.heap.size w w') : RR w' A n L :=
  ⟨h.len, fun h0 => by
    obtain ⟨g, o, e, hc⟩ := h.c h0
    refine ⟨g, o, e, fun i j r hi hj => ?_⟩
    have h1 := hc i j r hi hj
    obtain ⟨v, hv⟩ : ∃ v, (rcC r)[j]? = some v := ⟨(rcC r)[j]'(by rw [rcC_len]; exact hj), List.getElem?_eq_getElem (by rw [rcC_len]; exact hj)⟩
    rw [hv] at h1 ⊢
    exact (hb.cell (World.block_lt_of_cell? _ _ h1)).trans h1⟩
/-- One record of a row. -/
structure RC (w : World) (g o : Nat) (r : Rec) : Prop where
  c0 : w.cell? ⟨g, o, none⟩ = some (.int .u64 r.l)
  c1 : w.cell? ⟨g, o + 1, none⟩ = some (.int .u32 r.e)
  c2 : w.cell? ⟨g, o + 2, none⟩ = some (.int .i64 r.k)
  c3 : w.cell? ⟨g, o + 3, none⟩ = some (.int .u64 r.v)
  c4 : w.cell? ⟨g, o + 4, none⟩ = some (.int .u64 r.d)
  c5 : w.cell? ⟨g, o + 5, none⟩ = some (.string r.i)
  c6 : w.cell? ⟨g, o + 6, none⟩ = some (.string r.a)
theorem RC.of {w : World} {g o : Nat} {r : Rec} (h : ∀ j, j < 7 → w.cell? ⟨g, o + j, none⟩ = (rcC r)[j]?) : RC w g o r :=
  ⟨h 0 (by decide), h 1 (by decide), h 2 (by decide), h 3 (by decide), h 4 (by decide), h 5 (by decide), h 6 (by decide)⟩
theorem RR.rc {w : World} {A : Option Addr} {n : Nat} {L : List Rec} (h : RR w A n L) (h0 : 0 < n) : ∃ g o, A = some ⟨g, o, none⟩ ∧ ∀ i r, L[i]? = some r → RC w g (o + i * 7) r := by
  obtain ⟨g, o, e, hc⟩ := h.c h0
  exact ⟨g, o, e, fun i r hi => .of fun j hj => hc i j r hi hj⟩
theorem RC.later {w w' : World} {g o : Nat} {r : Rec} (h : RC w g o r) (hb : Below w.heap.size w w') : RC w' g o r := by
  have k : ∀ (q : Addr) (v : Value), w.cell? q = some v → w'.cell? q = some v := fun q v h => (hb.cell (World.block_lt_of_cell? _ _ h)).trans h
  exact ⟨k _ _ h.c0, k _ _ h.c1, k _ _ h.c2, k _ _ h.c3, k _ _ h.c4, k _ _ h.c5, k _ _ h.c6⟩
theorem below_drewN {B : Nat} {a w : World} (h : Below B a w) (n : Nat) : Below B a (w.drewN n) := ⟨h.os, h.tape, h.output, h.size, h.block⟩
set_option maxRecDepth 100000

theorem RR.of_row {W w : World} {items : List Sp.Item} {k : Nat} {T : TypeId} {A : Option Addr} {n p : Nat} {L : List Rec} (h : Sp.Sep W w items) (hk : items[k]? = some (rowS T 7 (.slice A n p) n (L.flatMap rcC))) (hn : n = L.length) : RR w A n L :=
  ⟨hn, fun h0 => by
    obtain ⟨g, e, hc⟩ := rows_cell h hk h0
    refine ⟨g, 0, e, fun i j r hi hj => ?_⟩
    have hlt : i < n := by rw [hn]; exact (List.getElem?_eq_some_iff.1 hi).1
    rw [Nat.zero_add, hc _ (by have := Nat.mul_le_mul_right 7 (show i + 1 ≤ n by omega); omega)]
    exact flat_get rcC 7 rcC_len L i r j hi hj⟩
theorem RR.nil (w : World) (A : Option Addr) : RR w A 0 [] := ⟨rfl, fun h => by omega⟩
theorem take_one {α : Type} {L : List α} {i : Nat} {r : α} (h : L[i]? = some r) : L.take (i + 1) = L.take i ++ [r] := by rw [List.take_add_one, h]; rfl
theorem rc_one (r : Rec) : ∀ u ∈ rcC r, u.oneCell' = true := by
  intro u hu
  simp only [rcC, List.mem_cons, List.not_mem_nil, or_false] at hu
  rcases hu with rfl | rfl | rfl | rfl | rfl | rfl | rfl <;> rfl
theorem prec_infos : (Try.prog.info? 44).map (fun i => (i.zero, i.size, i.bytes)) = some (some (.agg #[.int .u64 0, .int .u32 0, .int .i64 0, .int .u64 0, .int .u64 0, .string ⟨#[]⟩, .string ⟨#[]⟩]), 7, 72) := by kernel_rfl
/-- 'x = append(x, ys...)', structs, x not nil. -/
theorem wp_append_l {ops : Array Oper} {rest : List Oper} {o : Oper} {a : Act} {W w : World} {items : List Sp.Item} {Q : Exit → Act → World → Prop} {n p0 g0 : Nat} {xs cs : List Value} {e t : TypeId} {sz bytes : Nat} {z : Value} (hinfo : (Try.prog.info? e).map (fun i => (i.zero, i.size, i.bytes)) = some (some z, sz, bytes)) (hzs : z.cells.size = sz) (hsz : 0 < sz) (hby : bytes ≤ 1000)
    (ht : Try.prog.underlying t = some (.slice e)) (hgd : o.guard = none) (sx xx : Operand)
    (ho : o.op = .call { callee := .builtin .append, args := #[sx, xx], argTypes := #[t, t] }) (hs : a.eval sx = .slice (some ⟨g0, 0, none⟩) n p0) (ad : Addr) (m c : Nat) (hx : a.eval xx = .slice (some ad) m c) (h1 : Sp.Sep W w items) (k : Nat) (hk : items[k]? = some (rowS e sz (.slice (some ⟨g0, 0, none⟩) n p0) n xs)) (hn : n + m < 1000) (hl : cs.length = m * sz)
    (hcs : ∀ j u, cs[j]? = some u → w.cell? (ad.add j) = some u) (h1c : ∀ u ∈ cs, u.oneCell' = true)
    (h : ∀ g' p' w', Sp.Sep W w' (items.set k (rowS e sz (.slice (some ⟨g', 0, none⟩) (n + m) p') (n + m) (xs ++ cs))) → wpList Try.prog ops Q rest (a.put o.dst (.slice (some ⟨g', 0, none⟩) (n + m) p')) w') : wpList Try.prog ops Q (o :: rest) a w := by
  obtain ⟨i0, hi0, hz0, hz1, hz2⟩ := info_parts hinfo
  obtain ⟨G, ⟨hrow, hG⟩, _, _, hstep⟩ := h1.at_ k hk
  have hb : (n + m) * bytes ≤ 140737488355328 := Nat.le_trans (Nat.mul_le_mul (show n + m ≤ 1000 by omega) hby) (by decide)
  refine wpList_append_own_at _ hgd sx xx _ ho 0 e i0 _ sz bytes ht hi0 hz0 hz1 hz2 hzs hsz _ n xs hs hrow ad m c cs hx hl hcs h1c
    (by unfold maxLen; omega) hb (Nat.zero_le _) ?_
  intro v' w' hown hg hnil hat
  have hS := hstep w' (fun b => v'.ownBlock = some b) (rowS e sz v' (n + m) (xs ++ cs)) ⟨hown, fun b => Iff.rfl⟩ (fun b hb => by
    rcases hat with e | e
    · left; exact (hG b).2 (e ▸ hb)
    · right; rw [e] at hb; injection hb with hb; omega) ((Only.refl _ _).grown hg (fun q hq => .inl ((hG q).2 hq)))
  rcases hown.2 with ⟨e1, _⟩ | ⟨g', cap, cur, e1, _⟩
  · have := (hnil.1 e1).1
    cases this
  · subst e1
    exact h g' cap w' hS
theorem new_cells (w : World) (e : TypeId) (cs : List Value) : ∀ j u, cs[j]? = some u → (w.alloc (.cells cs.toArray e)).cell? ((⟨w.heap.size, 0, none⟩ : Addr).add j) = some u := fun j u hu => by
  rw [show (⟨w.heap.size, 0, none⟩ : Addr).add j = ⟨w.heap.size, j, none⟩ by unfold Addr.add; by_cases h : j = 0 <;> simp [h]]
  have := (Sp.Blk.new w e cs.toArray).cell j
  exact this.trans (by simpa using hu)
set_option maxRecDepth 100000

abbrev rcA (r : Rec) : Array Value := #[.int .u64 r.l, .int .u32 r.e, .int .i64 r.k, .int .u64 r.v, .int .u64 r.d, .string r.i, .string r.a]
theorem RC.blk {w : World} {g : Nat} {T : TypeId} {r : Rec} (h : Sp.Blk w g T (rcA r)) : RC w g 0 r :=
  RC.of fun j hj => by rw [Nat.zero_add, h.cell]; simp [rcC]
end Go.Proofs.Ytjdkgkllgapgjaa.Re
