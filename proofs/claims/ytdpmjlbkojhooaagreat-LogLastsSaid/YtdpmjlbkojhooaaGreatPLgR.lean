/- A part of the proofs of the statements about logs. -/
import Derived.Test.YtdpmjlbkojhooaaGreatPLgQ
import Derived.Test.YtdpmjlbkojhooaaGreatPMem
import Derived.Lib.SmallJoins
import Derived.Deep.LoopGhost
import Derived.StillTailTactics
import Derived.WalkSmall
namespace Go.Proofs.YtdpmjlbkojhooaaGreat.Lg
open Go.RowKit Go.Lib
open Tb (Tab TIn Sl okP csT lastN nth Fresh)
open Dk (St Only Grew)
set_option linter.unusedVariables false
set_option maxRecDepth 100000
inductive Cn where
  | any
  | is (v : Value)
  | tab (t : Tab)
def Cn.p : Cn → World → Value → Prop
  | .any => fun _ _ => True
  | .is v => fun _ u => u = v
  | .tab t => fun W u => ∃ A m p B k q C n r, u = .agg #[.int .i64 t.sg, .int .i64 t.st, .slice A m p, .slice B k q, .slice C n r] ∧ TIn W A m B k C n t.o t.l t.f
theorem Cn.later (c : Cn) {W W' : World} {u : Value} (hb : Below W.heap.size W W') (h : c.p W u) : c.p W' u := by
  cases c with
  | any => exact trivial
  | is v => exact h
  | tab t =>
    obtain ⟨A, m, p, B, k, q, C, n, r, e, s⟩ := h
    exact ⟨A, m, p, B, k, q, C, n, r, e, s.later hb⟩
def cs7 (l e k v d : Int) (i a : ByteArray) : Array Value := #[.int .u64 l, .int .u32 e, .int .i64 k, .int .u64 v, .int .u64 d, .string i, .string a]
theorem info_pr : (Tryz.prog.info? 46).map (·.size) = some 7 := by kernel_rfl
section
variable {ops : Array Oper} {rest : List Oper} {o : Oper} {a : Act} {w : World} {Q : Exit → Act → World → Prop}
theorem load_pr (hgd : o.guard = none) (x : Operand) (ho : o.op = .load 46 x) (b : Nat) (hx : a.eval x = .pointer (some ⟨b, 0, none⟩)) {l e k v d : Int} {i z : ByteArray} {t : TypeId} (hg : Tb.Blk w b t (cs7 l e k v d i z))
    (h : wpList Tryz.prog ops Q rest (a.put o.dst (.agg #[.int .u64 l, .int .u32 e, .int .i64 k, .int .u64 v, .int .u64 d, .string i, .string z])) w) : wpList Tryz.prog ops Q (o :: rest) a w :=
  wpList_load_row hgd _ x ho b hx _ (cs7 l e k v d i z) (0, 0) _ hg Tryz.underlying46 rfl info_pr h
end
end Go.Proofs.YtdpmjlbkojhooaaGreat.Lg
namespace Go.Proofs.YtdpmjlbkojhooaaGreat.Lg
open Go.RowKit Go.Lib
open Tb (Tab TIn Sl okP csT lastN nth Fresh)
open Dk (St Only Grew)
set_option linter.unusedVariables false
set_option maxRecDepth 100000
end Go.Proofs.YtdpmjlbkojhooaaGreat.Lg
namespace Go.Proofs.YtdpmjlbkojhooaaGreat.Lg
open Go.RowKit Go.Lib
open Tb (Tab TIn Sl okP csT lastN nth Fresh)
open Dk (St Only Grew)
set_option linter.unusedVariables false
set_option maxRecDepth 100000
end Go.Proofs.YtdpmjlbkojhooaaGreat.Lg
namespace Go.Proofs.YtdpmjlbkojhooaaGreat.Lg
open Go.RowKit Go.Lib
open Tb (Tab TIn Sl okP csT lastN nth Fresh)
open Dk (St Only Grew)
set_option linter.unusedVariables false
set_option maxRecDepth 100000
end Go.Proofs.YtdpmjlbkojhooaaGreat.Lg
namespace Go.Proofs.YtdpmjlbkojhooaaGreat.Lg
open Go.RowKit Go.Lib
open Tb (Tab TIn Sl okP csT lastN nth Fresh)
open Dk (St Only Grew)
set_option linter.unusedVariables false
set_option maxRecDepth 100000
end Go.Proofs.YtdpmjlbkojhooaaGreat.Lg
namespace Go.Proofs.YtdpmjlbkojhooaaGreat.Lg
open Go.ChangeShapes Go.WideShapes Go.ChangeAt Go.RowKit Go.Lib Go.Joins Go.Deep
open Tb (Tab TIn Sl okP csT lastN nth Fresh)
open Dk (St Only Grew)
set_option linter.unusedVariables false
set_option maxRecDepth 100000
structure LOp where
  k : Int
  l : Int
  e : Int
  rk : Int
  v : Int
  d : Int
  i : ByteArray
  a : ByteArray
  n : Int
  u : Int
instance : Inhabited LOp := ⟨⟨0, 0, 0, 0, 0, 0, .empty, .empty, 0, 0⟩⟩
def LOp.cells (o : LOp) : List Value := [.int .i64 o.k, .int .u64 o.l, .int .u32 o.e, .int .i64 o.rk, .int .u64 o.v, .int .u64 o.d, .string o.i, .string o.a, .int .i64 o.n, .int .u64 o.u]
structure LOp.Ok (o : LOp) : Prop where
  v : 0 ≤ o.v ∧ o.v < 18446744073709551616
  d : 0 ≤ o.d ∧ o.d < 18446744073709551616
  u : 0 ≤ o.u ∧ o.u < 18446744073709551616
  i : o.i.size ≤ maxLen
  a : o.a.size ≤ maxLen
def LopsIn (W : World) (A : Option Addr) (n : Nat) (f : Nat → LOp) : Prop :=
  (∀ j, j < n → (f j).Ok) ∧ (0 < n → ∃ b o, A = some ⟨b, o, none⟩ ∧ b < W.heap.size ∧ ∀ j, j < n → ∀ i, i < 10 → W.cell? ⟨b, o + j * 10 + i, none⟩ = (f j).cells[i]?)
theorem LopsIn.later {W W' : World} {A : Option Addr} {n : Nat} {f : Nat → LOp} (h : LopsIn W A n f) (hb : Below W.heap.size W W') : LopsIn W' A n f := by
  refine ⟨h.1, fun hn => ?_⟩
  obtain ⟨b, o, e, hlt, hc⟩ := h.2 hn
  exact ⟨b, o, e, Nat.lt_of_lt_of_le hlt hb.size, fun j hj i hi => (hb.cell (p := ⟨b, o + j * 10 + i, none⟩) hlt).trans (hc j hj i hi)⟩
theorem u64_of {n : Int} (h : (Lit.int .u64 n).wf = true) : 0 ≤ n ∧ n < 18446744073709551616 := by
  simp [Lit.wf] at h
  have h2 : n ≤ 18446744073709551615 := h.2
  exact ⟨h.1, by omega⟩
section
variable {H : Type} {enc : TypeId × Value → H} {W : World}
theorem rec_cells {base : Nat} {sp : Nat → Bool} {held : Bool} {fuel : Nat} {v1 v2 v3 v4 v5 v6 v7 : Value} {x : DataW H × List MemPlace} (h : DataW.trod enc Tryz.prog W base sp held fuel 46 [v1, v2, v3, v4, v5, v6, v7] = some x) :
    ∃ (l e k v d : Int) (i a : ByteArray), v1 = .int .u64 l ∧ v2 = .int .u32 e ∧ v3 = .int .i64 k ∧ v4 = .int .u64 v ∧ v5 = .int .u64 d ∧ v6 = .string i ∧ v7 = .string a ∧ (0 ≤ v ∧ v < 18446744073709551616) ∧ (0 ≤ d ∧ d < 18446744073709551616) ∧ i.size ≤ maxLen ∧ a.size ≤ maxLen := by
  obtain ⟨xs, n, _, rfl, _, hlen, hf⟩ := DataW.trod_struct Tryz.underlying46 h
  match xs, hlen with
  | [y0, y1, y2, y3, y4, y5, y6], _ =>
    have k1 : Tryz.prog.cellsOf 43 = 1 := by kernel_rfl
    have k2 : Tryz.prog.cellsOf 44 = 1 := by kernel_rfl
    have k3 : Tryz.prog.cellsOf 3 = 1 := by kernel_rfl
    have k4 : Tryz.prog.cellsOf 9 = 1 := by kernel_rfl
    have g0 := hf 0 _ rfl
    have g1 := hf 1 _ rfl
    have g2 := hf 2 _ rfl
    have g3 := hf 3 _ rfl
    have g4 := hf 4 _ rfl
    have g5 := hf 5 _ rfl
    have g6 := hf 6 _ rfl
    simp [k1, k2, k3, k4] at g0 g1 g2 g3 g4 g5 g6
    obtain ⟨l, e0, _, w0⟩ := DataW.trod_int Tryz.underlying43 g0
    obtain ⟨e, e1, _, w1⟩ := DataW.trod_int Tryz.underlying44 g1
    obtain ⟨k, e2, _, w2⟩ := DataW.trod_int Tryz.underlying3 g2
    obtain ⟨v, e3, _, w3⟩ := DataW.trod_int Tryz.underlying43 g3
    obtain ⟨d, e4, _, w4⟩ := DataW.trod_int Tryz.underlying43 g4
    obtain ⟨i, e5, _, w5⟩ := DataW.trod_string Tryz.underlying9 g5
    obtain ⟨a, e6, _, w6⟩ := DataW.trod_string Tryz.underlying9 g6
    simp at e0 e1 e2 e3 e4 e5 e6
    exact ⟨l, e, k, v, d, i, a, e0, e1, e2, e3, e4, e5, e6, u64_of w3, u64_of w4, w5, w6⟩
theorem lop_at {a : Addr} {fuel : Nat} {cs : List Value} {x : DataW H × List MemPlace} (hl : cs.length = 10) (hat : ∀ j, j < 10 → W.cell? (a.add j) = cs[j]?)
    (h : DataW.trod enc Tryz.prog W 0 (fun _ => true) true fuel 48 cs = some x) :
    ∃ o : LOp, o.Ok ∧ ∀ j, j < 10 → W.cell? (a.add j) = o.cells[j]? := by
  obtain ⟨xs, n, _, rfl, _, hlen, hf⟩ := DataW.trod_struct Tryz.underlying48 h
  match cs, hl, xs, hlen with
  | [v0, v1, v2, v3, v4, v5, v6, v7, v8, v9], _, [y0, y1, y2, y3], _ =>
    have k1 : Tryz.prog.cellsOf 3 = 1 := by kernel_rfl
    have k2 : Tryz.prog.cellsOf 43 = 1 := by kernel_rfl
    have k7 : Tryz.prog.cellsOf 46 = 7 := by kernel_rfl
    have g0 := hf 0 _ rfl
    have g1 := hf 1 _ rfl
    have g2 := hf 2 _ rfl
    have g3 := hf 3 _ rfl
    simp [k1, k2, k7] at g0 g1 g2 g3
    obtain ⟨K, e0, _, w0⟩ := DataW.trod_int Tryz.underlying3 g0
    obtain ⟨l, e, k, v, d, i, z, e1, e2, e3, e4, e5, e6, e7, b1, b2, b3, b4⟩ := rec_cells g1
    obtain ⟨N, e8, _, w8⟩ := DataW.trod_int Tryz.underlying3 g2
    obtain ⟨U, e9, _, w9⟩ := DataW.trod_int Tryz.underlying43 g3
    simp at e0 e8 e9
    subst e0 e1 e2 e3 e4 e5 e6 e7 e8 e9
    exact ⟨⟨K, l, e, k, v, d, i, z, N, U⟩, ⟨b1, b2, u64_of w9, b3, b4⟩, hat⟩
theorem open_lops {r : Reach} {b0 : Nat} {v : Value} {d : DataW H} {p : List MemPlace} (hv : Value.okWide Tryz.prog W r b0 25 v)
    (h : DataW.Trod enc Tryz.prog W 0 (fun _ => true) true 25 v d p) :
    ∃ (A : Option Addr) (n c : Nat) (f : Nat → LOp), v = .slice A n c ∧ n ≤ maxLen ∧ LopsIn W A n f := by
  have ht := Tryz.underlying25
  obtain ⟨A, n, c, rfl⟩ := okWide_slice ht hv
  obtain ⟨fuel, hf⟩ := h
  have hca : Tryz.prog.cellsOf 48 = 10 := by kernel_rfl
  rcases open_slice ht hf with ⟨h0, _⟩ | ⟨ad, len, cap, m, q, D, Pl, hcs, _, hl, hm, hmm, _, hi⟩
  · have h1 : (Value.slice A n c) = .slice none 0 0 := by simpa [Value.cells] using h0
    injection h1 with h1 h2 h3
    subst h1 h2 h3
    exact ⟨none, 0, 0, fun _ => default, rfl, Nat.zero_le _, fun j hj => absurd hj (by omega), fun h => absurd h (by omega)⟩
  · have h1 : (Value.slice A n c) = .slice (some ad) len cap := by simpa [Value.cells] using hcs
    injection h1 with h1 h2 h3
    subst h1 h2 h3
    simp only [if_true] at hmm
    subst hmm
    rw [hca] at hi
    have hx : ∀ j, j < n → ∃ z : LOp, z.Ok ∧ ∀ i, i < 10 → W.cell? ((ad.add (j * 10)).add i) = z.cells[i]? := fun j hj => by
      obtain ⟨cs', hc', ht'⟩ := hi j (by omega)
      obtain ⟨_, hcl, hat⟩ := World.cells?_some hc'
      exact lop_at hcl (fun i hi => hat i hi) ht'
    obtain ⟨z, hz⟩ := choose_lt (α := LOp) hx
    refine ⟨some ad, n, m, z, rfl, Nat.le_trans hl hm, fun j hj => (hz j hj).1, fun hn => ?_⟩
    have h0 := (hz 0 (by omega)).2 0 (by omega)
    have ha0 : (ad.add (0 * 10)).add 0 = ad := by unfold Addr.add; simp
    rw [ha0] at h0
    obtain ⟨e1, e2⟩ := spot_none h0
    refine ⟨ad.block, ad.off, by rw [← e1], e2, fun j hj i hi => ?_⟩
    have c0 := (hz j hj).2 i hi
    rw [e1] at c0
    simp only [Addr.add_mid, Nat.add_assoc] at c0
    simp only [Nat.add_assoc]
    exact c0
end
end Go.Proofs.YtdpmjlbkojhooaaGreat.Lg
namespace Go.Proofs.YtdpmjlbkojhooaaGreat.Lg
open Go.RowKit Go.Lib
open Tb (Tab TIn Sl okP csT lastN nth Fresh)
open Dk (St Only Grew)
set_option linter.unusedVariables false
set_option maxRecDepth 100000
inductive Ce where
  | any
  | is (v : Value)
  | len (n : Nat)
def Ce.p : Ce → World → Value → Prop
  | .any => fun _ _ => True
  | .is v => fun _ u => u = v
  | .len n => fun _ u => ∃ A c, u = .slice A n c
theorem limit_s {W w : World} {items : List Dk.Item} {k d : Nat} {s : St} (h : Dk.Sep W w items) (hk : items[k]? = some (Dk.diskI d s)) (n : Int) (h1 : -9223372036854775808 ≤ n) (h2 : n ≤ 9223372036854775807) :
    Calls Tryz.prog 15 #[.pointer (some ⟨d, 0, none⟩), .int .i64 n] w fun e w' => e = .returned (.tuple #[]) ∧ Dk.Sep W w' (items.set k (Dk.diskI d (s.limit n))) := by
  obtain ⟨G, D, _, _, put⟩ := h.at_ k hk
  exact (Dk.limit_any D n h1 h2).mono fun e w' ⟨he, D', hO⟩ => ⟨he, put w' G _ D' (Grew.refl _ _) hO⟩
theorem fmt_p {n sg sl rt : Int} {x : Nat} {S : ByteArray} (hn : 1 ≤ n ∧ n ≤ 4096) (hS : S.size = 128) (h : fmtE (St.new n) sg sl x rt S = 0) : LogP 0 (Tb.newT sg sl 1) (fmtD (St.new n) sg sl x rt S) 1 1 := by
  unfold fmtE at h
  unfold fmtD
  split at h
  · rename_i hm
    rw [if_pos hm]
    split at h
    · exact absurd h (by decide)
    · rename_i hz
      rw [if_neg hz]
      have hsz : (St.new n).size = n := rfl
      have hsc : 2 + sg * (sl + 1) ≤ n := by
        have := hz
        unfold Ck.scC at this
        rw [if_pos hm] at this
        omega
      have h2 : 2 ≤ n := by
        have := Int.mul_nonneg (show 0 ≤ sg by have := hm.1; omega) (show 0 ≤ sl + 1 by have := hm.2.1; omega)
        omega
      have g0 := Dk.St.Good.new hn.1 hn.2
      unfold chkS at h ⊢
      split at h
      · exact absurd h (by simp)
      · rename_i d0
        rw [if_neg d0]
        split at h
        · exact absurd h (by simp)
        · rename_i d1
          rw [if_neg d1]
          split at h
          · exact absurd h (by simp)
          · rename_i d2
            rw [if_neg d2]
            have g1 := ((g0.flush d0).write d1 (i := (0 + 1) % 2) (x := S) ⟨by decide, by show (0 + 1) % 2 < n; omega⟩ hS).flush d2
            exact ⟨Tb.new_ok (may_size hm), hsc, g1, by decide, by decide, by decide, by decide, by show ([] : List (Int × ByteArray)).length ≤ _; simp⟩
  · exact absurd h (by decide)
end Go.Proofs.YtdpmjlbkojhooaaGreat.Lg
