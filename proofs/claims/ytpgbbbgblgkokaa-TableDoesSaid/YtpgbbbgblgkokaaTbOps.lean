/- A list of calls among the arguments of a statement: what its cells are. -/
import Derived.Test.YtpgbbbgblgkokaaTbOp
import Derived.Test.YtpgbbbgblgkokaaMem
namespace Go.Proofs.Ytpgbbbgblgkokaa
open Go.ChangeShapes Go.WideShapes Go.ChangeAt Go.RowKit Go.Lib Go.Joins Go.Deep
set_option linter.unusedVariables false

/-- A list of calls: the cells by their index. -/
def TopsIn (W : World) (A : Option Addr) (n : Nat) (K G F : Nat → Int) : Prop :=
  0 < n → ∃ b o, A = some ⟨b, o, none⟩ ∧ b < W.heap.size ∧ ∀ j, j < n → W.cell? ⟨b, o + j * 3, none⟩ = some (.int .i64 (K j)) ∧ W.cell? ⟨b, o + j * 3 + 1, none⟩ = some (.int .i64 (G j)) ∧ W.cell? ⟨b, o + j * 3 + 2, none⟩ = some (.int .u64 (F j))
theorem TopsIn.later {W W' : World} {A : Option Addr} {n : Nat} {K G F : Nat → Int} (h : TopsIn W A n K G F) (hb : Below W.heap.size W W') : TopsIn W' A n K G F := fun hn => by
  obtain ⟨b, o, e, hlt, hc⟩ := h hn
  refine ⟨b, o, e, Nat.lt_of_lt_of_le hlt hb.size, fun j hj => ?_⟩
  obtain ⟨c0, c1, c2⟩ := hc j hj
  exact ⟨(hb.cell (p := ⟨b, o + j * 3, none⟩) hlt).trans c0, (hb.cell (p := ⟨b, o + j * 3 + 1, none⟩) hlt).trans c1, (hb.cell (p := ⟨b, o + j * 3 + 2, none⟩) hlt).trans c2⟩

section
variable {H : Type} {enc : TypeId × Value → H} {W : World}
theorem top_at {a : Addr} {fuel : Nat} {cs : List Value} {x : DataW H × List MemPlace} (hl : cs.length = 3) (hat : ∀ j, j < 3 → W.cell? (a.add j) = cs[j]?)
    (h : DataW.trod enc Try.prog W 0 (fun _ => true) true fuel 42 cs = some x) :
    ∃ K G F : Int, W.cell? (a.add 0) = some (.int .i64 K) ∧ W.cell? (a.add 1) = some (.int .i64 G) ∧ W.cell? (a.add 2) = some (.int .u64 F) := by
  obtain ⟨xs, n, _, rfl, _, hlen, hf⟩ := DataW.trod_struct Try.underlying42 h
  match cs, hl, xs, hlen with
  | [v0, v1, v2], _, [y0, y1, y2], _ =>
    have k1 : Try.prog.cellsOf 3 = 1 := by kernel_rfl
    have k2 : Try.prog.cellsOf 23 = 1 := by kernel_rfl
    have g0 := hf 0 _ rfl
    have g1 := hf 1 _ rfl
    have g2 := hf 2 _ rfl
    simp [k1, k2] at g0 g1 g2
    obtain ⟨K, e0, _, w0⟩ := DataW.trod_int Try.underlying3 g0
    obtain ⟨G, e1, _, w1⟩ := DataW.trod_int Try.underlying3 g1
    obtain ⟨F, e2, _, w2⟩ := DataW.trod_int Try.underlying23 g2
    simp at e0 e1 e2
    subst e0 e1 e2
    exact ⟨K, G, F, hat 0 (by omega), hat 1 (by omega), hat 2 (by omega)⟩

theorem open_tops {r : Reach} {b0 : Nat} {v : Value} {d : DataW H} {p : List MemPlace} (hv : Value.okWide Try.prog W r b0 24 v)
    (h : DataW.Trod enc Try.prog W 0 (fun _ => true) true 24 v d p) :
    ∃ (A : Option Addr) (n c : Nat) (K G F : Nat → Int), v = .slice A n c ∧ n ≤ maxLen ∧ TopsIn W A n K G F := by
  have ht := Try.underlying24
  obtain ⟨A, n, c, rfl⟩ := okWide_slice ht hv
  obtain ⟨fuel, hf⟩ := h
  have hca : Try.prog.cellsOf 42 = 3 := by kernel_rfl
  rcases open_slice ht hf with ⟨h0, _⟩ | ⟨ad, len, cap, m, q, D, Pl, hcs, _, hl, hm, hmm, _, hi⟩
  · have h1 : (Value.slice A n c) = .slice none 0 0 := by simpa [Value.cells] using h0
    injection h1 with h1 h2 h3
    subst h1 h2 h3
    exact ⟨none, 0, 0, fun _ => 0, fun _ => 0, fun _ => 0, rfl, Nat.zero_le _, fun h => absurd h (by omega)⟩
  · have h1 : (Value.slice A n c) = .slice (some ad) len cap := by simpa [Value.cells] using hcs
    injection h1 with h1 h2 h3
    subst h1 h2 h3
    simp only [if_true] at hmm
    subst hmm
    rw [hca] at hi
    have hx : ∀ j, j < n → ∃ z : Int × Int × Int, W.cell? ((ad.add (j * 3)).add 0) = some (.int .i64 z.1) ∧ W.cell? ((ad.add (j * 3)).add 1) = some (.int .i64 z.2.1) ∧ W.cell? ((ad.add (j * 3)).add 2) = some (.int .u64 z.2.2) := fun j hj => by
      obtain ⟨cs', hc', ht'⟩ := hi j (by omega)
      obtain ⟨_, hcl, hat⟩ := World.cells?_some hc'
      obtain ⟨K, G, F, ho⟩ := top_at hcl (fun i hi => hat i hi) ht'
      exact ⟨(K, G, F), ho⟩
    obtain ⟨z, hz⟩ := choose_lt (α := Int × Int × Int) hx
    refine ⟨some ad, n, m, fun j => (z j).1, fun j => (z j).2.1, fun j => (z j).2.2, rfl, Nat.le_trans hl hm, fun hn => ?_⟩
    have h0 := (hz 0 (by omega)).1
    have ha0 : (ad.add (0 * 3)).add 0 = ad := by unfold Addr.add; simp
    rw [ha0] at h0
    obtain ⟨e1, e2⟩ := spot_none h0
    refine ⟨ad.block, ad.off, by rw [← e1], e2, fun j hj => ?_⟩
    obtain ⟨c0, c1, c2⟩ := hz j hj
    rw [e1] at c0 c1 c2
    simp only [Addr.add_mid, Nat.add_zero, Nat.add_assoc] at c0 c1 c2
    simp only [Nat.add_assoc]
    exact ⟨c0, c1, c2⟩
end
end Go.Proofs.Ytpgbbbgblgkokaa
