/- Records among the arguments. -/
import Derived.Test.YtjdkgkllgapgjaaJxR
import Derived.Test.YtjdkgkllgapgjaaMem
import Derived.Lib.SmallJoins
namespace Go.Proofs.Ytjdkgkllgapgjaa.Re
open Go.ChangeShapes Go.WideShapes Go.ChangeAt Go.RowKit Go.Lib Go.Joins Go.Deep
open Sp
set_option linter.unusedVariables false
set_option maxRecDepth 100000

instance : Inhabited Rec := ⟨⟨0, 0, 0, 0, 0, .empty, .empty⟩⟩
theorem u64_of {n : Int} (h : (Lit.int .u64 n).wf = true) : 0 ≤ n ∧ n < 18446744073709551616 := by
  simp [Lit.wf] at h
  have h2 : n ≤ 18446744073709551615 := h.2
  exact ⟨h.1, by omega⟩
/-- The fields of a record that was handed in. -/
structure ROk (o : Rec) : Prop where
  v : 0 ≤ o.v ∧ o.v < 18446744073709551616
  d : 0 ≤ o.d ∧ o.d < 18446744073709551616
  i : o.i.size ≤ maxLen
  a : o.a.size ≤ maxLen
section
variable {H : Type} {enc : TypeId × Value → H} {W : World}
theorem rec_cells {base : Nat} {sp : Nat → Bool} {held : Bool} {fuel : Nat} {v1 v2 v3 v4 v5 v6 v7 : Value} {x : DataW H × List MemPlace} (h : DataW.trod enc Try.prog W base sp held fuel 44 [v1, v2, v3, v4, v5, v6, v7] = some x) :
    ∃ (l e k v d : Int) (i a : ByteArray), v1 = .int .u64 l ∧ v2 = .int .u32 e ∧ v3 = .int .i64 k ∧ v4 = .int .u64 v ∧ v5 = .int .u64 d ∧ v6 = .string i ∧ v7 = .string a ∧ (0 ≤ v ∧ v < 18446744073709551616) ∧ (0 ≤ d ∧ d < 18446744073709551616) ∧ i.size ≤ maxLen ∧ a.size ≤ maxLen := by
  obtain ⟨xs, n, _, rfl, _, hlen, hf⟩ := DataW.trod_struct Try.underlying44 h
  match xs, hlen with
  | [y0, y1, y2, y3, y4, y5, y6], _ =>
    have k1 : Try.prog.cellsOf 30 = 1 := by kernel_rfl
    have k2 : Try.prog.cellsOf 42 = 1 := by kernel_rfl
    have k3 : Try.prog.cellsOf 3 = 1 := by kernel_rfl
    have k4 : Try.prog.cellsOf 9 = 1 := by kernel_rfl
    have g0 := hf 0 _ rfl
    have g1 := hf 1 _ rfl
    have g2 := hf 2 _ rfl
    have g3 := hf 3 _ rfl
    have g4 := hf 4 _ rfl
    have g5 := hf 5 _ rfl
    have g6 := hf 6 _ rfl
    simp [k1, k2, k3, k4] at g0 g1 g2 g3 g4 g5 g6
    obtain ⟨l, e0, _, w0⟩ := DataW.trod_int Try.underlying30 g0
    obtain ⟨e, e1, _, w1⟩ := DataW.trod_int Try.underlying42 g1
    obtain ⟨k, e2, _, w2⟩ := DataW.trod_int Try.underlying3 g2
    obtain ⟨v, e3, _, w3⟩ := DataW.trod_int Try.underlying30 g3
    obtain ⟨d, e4, _, w4⟩ := DataW.trod_int Try.underlying30 g4
    obtain ⟨i, e5, _, w5⟩ := DataW.trod_string Try.underlying9 g5
    obtain ⟨a, e6, _, w6⟩ := DataW.trod_string Try.underlying9 g6
    simp at e0 e1 e2 e3 e4 e5 e6
    exact ⟨l, e, k, v, d, i, a, e0, e1, e2, e3, e4, e5, e6, u64_of w3, u64_of w4, w5, w6⟩
theorem rec_at {a : Addr} {fuel : Nat} {cs : List Value} {x : DataW H × List MemPlace} (hl : cs.length = 7) (hat : ∀ j, j < 7 → W.cell? (a.add j) = cs[j]?)
    (h : DataW.trod enc Try.prog W 0 (fun _ => true) true fuel 44 cs = some x) :
    ∃ o : Rec, ROk o ∧ ∀ j, j < 7 → W.cell? (a.add j) = (rcC o)[j]? := by
  match cs, hl with
  | [v0, v1, v2, v3, v4, v5, v6], _ =>
    obtain ⟨l, e, k, v, d, i, z, e1, e2, e3, e4, e5, e6, e7, b1, b2, b3, b4⟩ := rec_cells h
    subst e1 e2 e3 e4 e5 e6 e7
    exact ⟨⟨l, e, k, v, d, i, z⟩, ⟨b1, b2, b3, b4⟩, hat⟩
theorem open_recs {r : Reach} {b0 : Nat} {v : Value} {d : DataW H} {p : List MemPlace} (hv : Value.okWide Try.prog W r b0 22 v)
    (h : DataW.Trod enc Try.prog W 0 (fun _ => true) true 22 v d p) :
    ∃ (A : Option Addr) (n c : Nat) (L : List Rec), v = .slice A n c ∧ n ≤ maxLen ∧ RR W A n L ∧ ∀ x ∈ L, ROk x := by
  have ht := Try.underlying22
  obtain ⟨A, n, c, rfl⟩ := okWide_slice ht hv
  obtain ⟨fuel, hf⟩ := h
  have hca : Try.prog.cellsOf 44 = 7 := by kernel_rfl
  rcases open_slice ht hf with ⟨h0, _⟩ | ⟨ad, len, cap, m, q, D, Pl, hcs, _, hl, hm, hmm, _, hi⟩
  · have h1 : (Value.slice A n c) = .slice none 0 0 := by simpa [Value.cells] using h0
    injection h1 with h1 h2 h3
    subst h1 h2 h3
    exact ⟨none, 0, 0, [], rfl, Nat.zero_le _, RR.nil _ _, by simp⟩
  · have h1 : (Value.slice A n c) = .slice (some ad) len cap := by simpa [Value.cells] using hcs
    injection h1 with h1 h2 h3
    subst h1 h2 h3
    simp only [if_true] at hmm
    subst hmm
    rw [hca] at hi
    have hx : ∀ j, j < n → ∃ z : Rec, ROk z ∧ ∀ i, i < 7 → W.cell? ((ad.add (j * 7)).add i) = (rcC z)[i]? := fun j hj => by
      obtain ⟨cs', hc', ht'⟩ := hi j (by omega)
      obtain ⟨_, hcl, hat⟩ := World.cells?_some hc'
      exact rec_at hcl (fun i hi => hat i hi) ht'
    obtain ⟨z, hz⟩ := choose_lt (α := Rec) hx
    refine ⟨some ad, n, m, (List.range n).map z, rfl, Nat.le_trans hl hm, ⟨by simp, fun hn => ?_⟩, fun x hx => ?_⟩
    · have h0 := (hz 0 (by omega)).2 0 (by omega)
      have ha0 : (ad.add (0 * 7)).add 0 = ad := by unfold Addr.add; simp
      rw [ha0] at h0
      obtain ⟨e1, e2⟩ := spot_none h0
      refine ⟨ad.block, ad.off, by rw [← e1], fun i j r hi hj => ?_⟩
      have hin : i < n := by have := (List.getElem?_eq_some_iff.1 hi).1; simpa using this
      have hr : r = z i := by
        rw [List.getElem?_map, List.getElem?_range hin] at hi
        simpa using hi.symm
      subst hr
      have c0 := (hz i hin).2 j hj
      rw [e1] at c0
      simp only [Addr.add_mid, Nat.add_assoc] at c0
      simp only [Nat.add_assoc]
      exact c0
    · obtain ⟨j, hj, rfl⟩ := List.mem_map.1 hx
      exact (hz j (List.mem_range.1 hj)).1
end
end Go.Proofs.Ytjdkgkllgapgjaa.Re
