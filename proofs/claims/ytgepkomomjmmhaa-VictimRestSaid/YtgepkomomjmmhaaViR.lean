/- Candidates in memory: rows that can be read, candidates among the arguments; rows of one cell. -/
import Derived.Test.YtgepkomomjmmhaaViM
import Derived.Test.YtgepkomomjmmhaaSpA
import Derived.Test.YtgepkomomjmmhaaMem
import Derived.BigQuiet
import Derived.IntWalk
import Derived.Sort.Walk0
import Derived.WalkSmall
import Derived.Deep.LoopGhost
import Derived.Deep.DeepCutAuto
import Derived.Deep.WholeRow
import Derived.Lib.SmallJoins
namespace Go.Proofs.Ytgepkomomjmmhaa.Vi
open Go.ChangeShapes Go.WideShapes Go.ChangeAt Go.RowKit Go.Lib Go.Joins Go.Deep
open Sp
set_option linter.unusedVariables false
set_option maxRecDepth 100000

/-- A candidate's cells. -/
def cdC (c : Cd) : List Value := [.int .i64 c.s, .int .i64 c.l, .int .i64 c.v, .int .i64 c.n, .int .u64 c.a]
abbrev cdA5 (c : Cd) : Array Value := #[.int .i64 c.s, .int .i64 c.l, .int .i64 c.v, .int .i64 c.n, .int .u64 c.a]
theorem cdC_len (c : Cd) : (cdC c).length = 5 := rfl
theorem cd_one (c : Cd) : ∀ u ∈ cdC c, u.oneCell' = true := by
  intro u hu
  simp only [cdC, List.mem_cons, List.not_mem_nil, or_false] at hu
  rcases hu with rfl | rfl | rfl | rfl | rfl <;> rfl
/-- Candidates that can be read. -/
structure CR (w : World) (A : Option Addr) (n : Nat) (L : List Cd) : Prop where
  len : n = L.length
  c : 0 < n → ∃ g o, A = some ⟨g, o, none⟩ ∧ ∀ i j r, L[i]? = some r → j < 5 → w.cell? ⟨g, o + i * 5 + j, none⟩ = (cdC r)[j]?
theorem CR.later {w w' : World} {A : Option Addr} {n : Nat} {L : List Cd} (h : CR w A n L) (hb : Below w.heap.size w w') : CR w' A n L :=
  ⟨h.len, fun h0 => by
    obtain ⟨g, o, e, hc⟩ := h.c h0
    refine ⟨g, o, e, fun i j r hi hj => ?_⟩
    have h1 := hc i j r hi hj
    obtain ⟨v, hv⟩ : ∃ v, (cdC r)[j]? = some v := ⟨(cdC r)[j]'(by rw [cdC_len]; exact hj), List.getElem?_eq_getElem (by rw [cdC_len]; exact hj)⟩
    rw [hv] at h1 ⊢
    exact (hb.cell (World.block_lt_of_cell? _ _ h1)).trans h1⟩
/-- One candidate of a row. -/
structure CC (w : World) (g o : Nat) (r : Cd) : Prop where
  c0 : w.cell? ⟨g, o, none⟩ = some (.int .i64 r.s)
  c1 : w.cell? ⟨g, o + 1, none⟩ = some (.int .i64 r.l)
  c2 : w.cell? ⟨g, o + 2, none⟩ = some (.int .i64 r.v)
  c3 : w.cell? ⟨g, o + 3, none⟩ = some (.int .i64 r.n)
  c4 : w.cell? ⟨g, o + 4, none⟩ = some (.int .u64 r.a)
theorem CC.of {w : World} {g o : Nat} {r : Cd} (h : ∀ j, j < 5 → w.cell? ⟨g, o + j, none⟩ = (cdC r)[j]?) : CC w g o r :=
  ⟨h 0 (by decide), h 1 (by decide), h 2 (by decide), h 3 (by decide), h 4 (by decide)⟩
theorem CR.rc {w : World} {A : Option Addr} {n : Nat} {L : List Cd} (h : CR w A n L) (h0 : 0 < n) : ∃ g o, A = some ⟨g, o, none⟩ ∧ ∀ i r, L[i]? = some r → CC w g (o + i * 5) r := by
  obtain ⟨g, o, e, hc⟩ := h.c h0
  exact ⟨g, o, e, fun i r hi => .of fun j hj => hc i j r hi hj⟩
theorem CC.later {w w' : World} {g o : Nat} {r : Cd} (h : CC w g o r) (hb : Below w.heap.size w w') : CC w' g o r := by
  have k : ∀ (q : Addr) (v : Value), w.cell? q = some v → w'.cell? q = some v := fun q v h => (hb.cell (World.block_lt_of_cell? _ _ h)).trans h
  exact ⟨k _ _ h.c0, k _ _ h.c1, k _ _ h.c2, k _ _ h.c3, k _ _ h.c4⟩
theorem CR.of_row {W w : World} {items : List Sp.Item} {k : Nat} {T : TypeId} {A : Option Addr} {n p : Nat} {L : List Cd} (h : Sp.Sep W w items) (hk : items[k]? = some (rowS T 5 (.slice A n p) n (L.flatMap cdC))) (hn : n = L.length) : CR w A n L :=
  ⟨hn, fun h0 => by
    obtain ⟨g, e, hc⟩ := rows_cell h hk h0
    refine ⟨g, 0, e, fun i j r hi hj => ?_⟩
    have hlt : i < n := by rw [hn]; exact (List.getElem?_eq_some_iff.1 hi).1
    rw [Nat.zero_add, hc _ (by have := Nat.mul_le_mul_right 5 (show i + 1 ≤ n by omega); omega)]
    exact flat_get cdC 5 cdC_len L i r j hi hj⟩
theorem CR.nil (w : World) (A : Option Addr) : CR w A 0 [] := ⟨rfl, fun h => by omega⟩
/-- The first ones. -/
theorem CR.cut {w : World} {A : Option Addr} {n : Nat} {L : List Cd} (h : CR w A n L) (m : Nat) (hm : m ≤ n) : CR w A m (L.take m) :=
  ⟨by rw [List.length_take, ← h.len]; omega, fun h0 => by
    obtain ⟨g, o, e, hc⟩ := h.c (by omega)
    exact ⟨g, o, e, fun i j r hi hj => hc i j r (by
      have hlt : i < m := by have := (List.getElem?_eq_some_iff.1 hi).1; rw [List.length_take] at this; omega
      rwa [List.getElem?_take_of_lt hlt] at hi) hj⟩⟩
theorem CC.blk {w : World} {g : Nat} {T : TypeId} {r : Cd} (h : Sp.Blk w g T (cdA5 r)) : CC w g 0 r :=
  CC.of fun j hj => by rw [Nat.zero_add, h.cell]; simp [cdC]

/-- One-cell values that can be read. -/
structure VR (w : World) (A : Option Addr) (n : Nat) (V : List Value) : Prop where
  len : n = V.length
  c : 0 < n → ∃ g o, A = some ⟨g, o, none⟩ ∧ ∀ i v, V[i]? = some v → w.cell? ⟨g, o + i, none⟩ = some v
theorem VR.later {w w' : World} {A : Option Addr} {n : Nat} {V : List Value} (h : VR w A n V) (hb : Below w.heap.size w w') : VR w' A n V :=
  ⟨h.len, fun h0 => by
    obtain ⟨g, o, e, hc⟩ := h.c h0
    exact ⟨g, o, e, fun i v hi => (hb.cell (World.block_lt_of_cell? _ _ (hc i v hi))).trans (hc i v hi)⟩⟩
theorem VR.of_row {W w : World} {items : List Sp.Item} {k : Nat} {T : TypeId} {A : Option Addr} {n p : Nat} {V : List Value} (h : Sp.Sep W w items) (hk : items[k]? = some (rowS T 1 (.slice A n p) n V)) (hn : n = V.length) : VR w A n V :=
  ⟨hn, fun h0 => by
    obtain ⟨g, e, hc⟩ := rows_cell h hk h0
    refine ⟨g, 0, e, fun i v hi => ?_⟩
    have hlt : i < n := by rw [hn]; exact (List.getElem?_eq_some_iff.1 hi).1
    rw [Nat.zero_add, hc i (by omega)]
    exact hi⟩
theorem VR.nil (w : World) (A : Option Addr) : VR w A 0 [] := ⟨rfl, fun h => by omega⟩
def bv (B : List Bool) : List Value := B.map Value.bool
def iv (l : List Int) : List Value := l.map (Value.int .i64)
theorem bv_len (B : List Bool) : (bv B).length = B.length := by unfold bv; rw [List.length_map]
theorem iv_len (l : List Int) : (iv l).length = l.length := by unfold iv; rw [List.length_map]
theorem bv_at {B : List Bool} {i : Nat} {b : Bool} (h : B[i]? = some b) : (bv B)[i]? = some (.bool b) := by unfold bv; rw [List.getElem?_map, h]; rfl
theorem iv_at {l : List Int} {i : Nat} {b : Int} (h : l[i]? = some b) : (iv l)[i]? = some (.int .i64 b) := by unfold iv; rw [List.getElem?_map, h]; rfl
theorem below_drewN {B : Nat} {a w : World} (h : Below B a w) (n : Nat) : Below B a (w.drewN n) := ⟨h.os, h.tape, h.output, h.size, h.block⟩
theorem below1 (w : World) (o : Obj) : Below w.heap.size w (w.alloc o) := (Below.refl _ _).alloc (Nat.le_refl _) _

/-! ### Among the arguments -/
theorem u64_of {n : Int} (h : (Lit.int .u64 n).wf = true) : 0 ≤ n ∧ n < 18446744073709551616 := by
  simp [Lit.wf] at h
  have h2 : n ≤ 18446744073709551615 := h.2
  exact ⟨h.1, by omega⟩
section
variable {H : Type} {enc : TypeId × Value → H} {W : World}
/-- The numbers of a candidate that was handed in are numbers of 64 bits. -/
structure CIn (c : Cd) : Prop where
  s : -9223372036854775808 ≤ c.s ∧ c.s ≤ 9223372036854775807
  l : -9223372036854775808 ≤ c.l ∧ c.l ≤ 9223372036854775807
  v : -9223372036854775808 ≤ c.v ∧ c.v ≤ 9223372036854775807
  n : -9223372036854775808 ≤ c.n ∧ c.n ≤ 9223372036854775807
  a : COk c
theorem cand_cells {base : Nat} {sp : Nat → Bool} {held : Bool} {fuel : Nat} {v1 v2 v3 v4 v5 : Value} {x : DataW H × List MemPlace} (h : DataW.trod enc Try.prog W base sp held fuel 25 [v1, v2, v3, v4, v5] = some x) :
    ∃ c : Cd, CIn c ∧ [v1, v2, v3, v4, v5] = cdC c := by
  obtain ⟨xs, n, _, rfl, _, hlen, hf⟩ := DataW.trod_struct Try.underlying25 h
  match xs, hlen with
  | [y0, y1, y2, y3, y4], _ =>
    have k1 : Try.prog.cellsOf 23 = 1 := by kernel_rfl
    have k3 : Try.prog.cellsOf 3 = 1 := by kernel_rfl
    have g0 := hf 0 _ rfl
    have g1 := hf 1 _ rfl
    have g2 := hf 2 _ rfl
    have g3 := hf 3 _ rfl
    have g4 := hf 4 _ rfl
    simp [k1, k3] at g0 g1 g2 g3 g4
    obtain ⟨s, e0, _, w0⟩ := DataW.trod_int Try.underlying3 g0
    obtain ⟨l, e1, _, w1⟩ := DataW.trod_int Try.underlying3 g1
    obtain ⟨v, e2, _, w2⟩ := DataW.trod_int Try.underlying3 g2
    obtain ⟨n, e3, _, w3⟩ := DataW.trod_int Try.underlying3 g3
    obtain ⟨a, e4, _, w4⟩ := DataW.trod_int Try.underlying23 g4
    simp at e0 e1 e2 e3 e4
    exact ⟨⟨s, l, v, n, a⟩, ⟨i64_of w0, i64_of w1, i64_of w2, i64_of w3, u64_of w4⟩, by rw [e0, e1, e2, e3, e4]; rfl⟩
theorem cand_at {a : Addr} {fuel : Nat} {cs : List Value} {x : DataW H × List MemPlace} (hl : cs.length = 5) (hat : ∀ j, j < 5 → W.cell? (a.add j) = cs[j]?)
    (h : DataW.trod enc Try.prog W 0 (fun _ => true) true fuel 25 cs = some x) :
    ∃ o : Cd, CIn o ∧ ∀ j, j < 5 → W.cell? (a.add j) = (cdC o)[j]? := by
  match cs, hl with
  | [v0, v1, v2, v3, v4], _ =>
    obtain ⟨c, hc, e⟩ := cand_cells h
    rw [e] at hat
    exact ⟨c, hc, hat⟩
theorem open_cands {r : Reach} {b0 : Nat} {v : Value} {d : DataW H} {p : List MemPlace} (hv : Value.okWide Try.prog W r b0 22 v)
    (h : DataW.Trod enc Try.prog W 0 (fun _ => true) true 22 v d p) :
    ∃ (A : Option Addr) (n c : Nat) (L : List Cd), v = .slice A n c ∧ n ≤ maxLen ∧ n ≤ c ∧ CR W A n L ∧ ∀ x ∈ L, CIn x := by
  have ht := Try.underlying22
  obtain ⟨A, n, c, rfl⟩ := okWide_slice ht hv
  obtain ⟨fuel, hf⟩ := h
  have hca : Try.prog.cellsOf 25 = 5 := by kernel_rfl
  rcases open_slice ht hf with ⟨h0, _⟩ | ⟨ad, len, cap, m, q, D, Pl, hcs, _, hl, hm, hmm, _, hi⟩
  · have h1 : (Value.slice A n c) = .slice none 0 0 := by simpa [Value.cells] using h0
    injection h1 with h1 h2 h3
    subst h1 h2 h3
    exact ⟨none, 0, 0, [], rfl, Nat.zero_le _, Nat.zero_le _, CR.nil _ _, by simp⟩
  · have h1 : (Value.slice A n c) = .slice (some ad) len cap := by simpa [Value.cells] using hcs
    injection h1 with h1 h2 h3
    subst h1 h2 h3
    simp only [if_true] at hmm
    subst hmm
    rw [hca] at hi
    have hx : ∀ j, j < n → ∃ z : Cd, CIn z ∧ ∀ i, i < 5 → W.cell? ((ad.add (j * 5)).add i) = (cdC z)[i]? := fun j hj => by
      obtain ⟨cs', hc', ht'⟩ := hi j (by omega)
      obtain ⟨_, hcl, hat⟩ := World.cells?_some hc'
      exact cand_at hcl (fun i hi => hat i hi) ht'
    obtain ⟨z, hz⟩ := choose_lt (α := Cd) hx
    refine ⟨some ad, n, m, (List.range n).map z, rfl, Nat.le_trans hl hm, hl, ⟨by simp, fun hn => ?_⟩, fun x hx => ?_⟩
    · have h0 := (hz 0 (by omega)).2 0 (by omega)
      have ha0 : (ad.add (0 * 5)).add 0 = ad := by unfold Addr.add; simp
      rw [ha0] at h0
      obtain ⟨e1, e2⟩ := spot_none h0
      refine ⟨ad.block, ad.off, by rw [← e1], fun i j r hi hj => ?_⟩
      have hin : i < n := by have := (List.getElem?_eq_some_iff.1 hi).1; simpa using this
      have hr : r = z i := by
        rw [List.getElem?_map, List.getElem?_range hin] at hi
        simpa using hi.symm
      subst hr
      have c0 := (hz i hin).2 j hj
      rw [e1] at c0
      simp only [Addr.add_mid, Nat.add_assoc] at c0
      simp only [Nat.add_assoc]
      exact c0
    · obtain ⟨j, hj, rfl⟩ := List.mem_map.1 hx
      exact (hz j (List.mem_range.1 hj)).1
end
theorem cand_infos : (Try.prog.info? 25).map (fun i => (i.zero, i.size, i.bytes)) = some (some (.agg #[.int .i64 0, .int .i64 0, .int .i64 0, .int .i64 0, .int .u64 0]), 5, 40) := by kernel_rfl
theorem rcand_infos : (Try.prog.info? 28).map (fun i => (i.zero, i.size, i.bytes)) = some (some (.agg #[.int .i64 0, .int .i64 0, .int .i64 0, .int .i64 0, .int .u64 0]), 5, 40) := by kernel_rfl
end Go.Proofs.Ytgepkomomjmmhaa.Vi
