/- A list of Ops among the arguments of a statement: what its cells are. -/
import Derived.Test.YtoblkjahohlflaaDiskDoH
import Derived.Test.YtoblkjahohlflaaMem
namespace Go.Proofs.Ytoblkjahohlflaa
open Go.ChangeShapes Go.WideShapes Go.ChangeAt Go.RowKit Go.Lib Go.Deep
set_option linter.unusedVariables false

section
variable {H : Type} {enc : TypeId × Value → H} {P : Program} {W : World}
theorem trod_bools {t e : TypeId} {fuel : Nat} {v : Value} {x : DataW H × List MemPlace} (ht : P.underlying t = some (.slice e)) (he : P.underlying e = some .bool) (hc : P.cellsOf e = 1)
    (hf : DataW.trod enc P W 0 (fun _ => true) true fuel t [v] = some x) :
    ∃ A n c, ∃ f : Nat → Bool, v = .slice A n c ∧ n ≤ maxLen ∧ CellsIn W A n (fun j => .bool (f j)) ∧ ∀ j, n ≤ j → f j = false := by
  rcases open_slice1 ht hc hf with ⟨h0, _⟩ | ⟨a, len, cap, m, k, V, D, Pl, hcs, _, hl, hm, hmm, _, hi⟩
  · obtain rfl : v = .slice none 0 0 := by simpa using h0
    exact ⟨none, 0, 0, fun _ => false, rfl, Nat.zero_le _, fun h => absurd h (by omega), fun _ _ => rfl⟩
  · obtain rfl : v = .slice (some a) len cap := by simpa using hcs
    simp only [if_true] at hmm
    subst hmm
    obtain ⟨f, hf⟩ := choose_lt (α := Bool) (n := len) (p := fun j z => V j = .bool z) (fun j hj => by
      obtain ⟨z, e1, _⟩ := DataW.trod_bool he (hi j (by omega)).2
      exact ⟨z, by simpa using e1⟩)
    refine ⟨some a, len, m, fun j => decide (j < len) && f j, rfl, Nat.le_trans hl hm, fun hn => ?_, fun j hj => by simp [show ¬ j < len by omega]⟩
    have h0 := (hi 0 (by omega)).1
    have ha : a.add 0 = a := by unfold Addr.add; simp
    rw [ha] at h0
    obtain ⟨e1, e2⟩ := spot_none h0
    refine ⟨a.block, a.off, by rw [← e1], e2, fun j hj => ?_⟩
    have := (hi j (by omega)).1
    rw [e1, Addr.add_mid, hf j hj] at this
    simpa [hj] using this
end

/-- What is known of one Op. -/
structure OpAt (W : World) (a : Addr) (K I T P : Int) (S : ByteArray) (A : Option Addr) (m c : Nat) (keep : Nat → Bool) : Prop where
  c0 : W.cell? (a.add 0) = some (.int .i64 K)
  c1 : W.cell? (a.add 1) = some (.int .i64 I)
  c2 : W.cell? (a.add 2) = some (.string S)
  c3 : W.cell? (a.add 3) = some (.slice A m c)
  c4 : W.cell? (a.add 4) = some (.int .i64 T)
  c5 : W.cell? (a.add 5) = some (.int .i64 P)
  s : S.size ≤ maxLen
  i : (Lit.int .i64 I).wf = true
  mz : m ≤ maxLen
  k : CellsIn W A m (fun j => .bool (keep j))
  f : ∀ j, m ≤ j → keep j = false

theorem op_at {H : Type} {enc : TypeId × Value → H} {W : World} {a : Addr} {fuel : Nat} {cs : List Value} {x : DataW H × List MemPlace} (hl : cs.length = 6) (hat : ∀ j, j < 6 → W.cell? (a.add j) = cs[j]?)
    (h : DataW.trod enc Try.prog W 0 (fun _ => true) true fuel 36 cs = some x) : ∃ K I T P S A m c keep, OpAt W a K I T P S A m c keep := by
  obtain ⟨xs, n, _, rfl, _, hlen, hf⟩ := DataW.trod_struct Try.underlying36 h
  match cs, hl, xs, hlen with
  | [v0, v1, v2, v3, v4, v5], _, [y0, y1, y2, y3, y4, y5], _ =>
    have k1 : Try.prog.cellsOf 3 = 1 := by kernel_rfl
    have k2 : Try.prog.cellsOf 9 = 1 := by kernel_rfl
    have k3 : Try.prog.cellsOf 34 = 1 := by kernel_rfl
    have g0 := hf 0 _ rfl
    have g1 := hf 1 _ rfl
    have g2 := hf 2 _ rfl
    have g3 := hf 3 _ rfl
    have g4 := hf 4 _ rfl
    have g5 := hf 5 _ rfl
    simp [k1, k2, k3] at g0 g1 g2 g3 g4 g5
    obtain ⟨K, e0, _, w0⟩ := DataW.trod_int Try.underlying3 g0
    obtain ⟨I, e1, _, w1⟩ := DataW.trod_int Try.underlying3 g1
    obtain ⟨S, e2, _, w2⟩ := DataW.trod_string Try.underlying9 g2
    obtain ⟨A, m, c, keep, rfl, hm, hk, hkf⟩ := trod_bools Try.underlying34 Try.underlying4 (by kernel_rfl) g3
    obtain ⟨T, e4, _, w4⟩ := DataW.trod_int Try.underlying3 g4
    obtain ⟨P, e5, _, w5⟩ := DataW.trod_int Try.underlying3 g5
    simp at e0 e1 e2 e4 e5
    subst e0 e1 e2 e4 e5
    exact ⟨K, I, T, P, S, A, m, c, keep, ⟨hat 0 (by omega), hat 1 (by omega), hat 2 (by omega), hat 3 (by omega), hat 4 (by omega), hat 5 (by omega), w2, w1, hm, hk, hkf⟩⟩

theorem open_ops {H : Type} {enc : TypeId × Value → H} {W : World} {r : Reach} {b0 : Nat} {v : Value} {d : DataW H} {p : List MemPlace} (hv : Value.okWide Try.prog W r b0 22 v)
    (h : DataW.Trod enc Try.prog W 0 (fun _ => true) true 22 v d p) :
    ∃ (A : Option Addr) (n c : Nat) (K I T P : Nat → Int) (S : Nat → ByteArray) (KA : Nat → Option Addr) (km kc : Nat → Nat) (keep : Nat → Nat → Bool), v = .slice A n c ∧ n ≤ maxLen ∧ OpsIn W A n K I T P S KA km kc ∧
      (∀ j, j < n → (S j).size ≤ maxLen) ∧ (∀ j, j < n → (Lit.int .i64 (I j)).wf = true) ∧ (∀ j, j < n → km j ≤ maxLen) ∧ (∀ j, j < n → CellsIn W (KA j) (km j) (fun i => .bool (keep j i))) ∧ (∀ j, j < n → ∀ i, km j ≤ i → keep j i = false) := by
  have ht := Try.underlying22
  obtain ⟨A, n, c, rfl⟩ := okWide_slice ht hv
  obtain ⟨fuel, hf⟩ := h
  have hca : Try.prog.cellsOf 36 = 6 := by kernel_rfl
  rcases open_slice ht hf with ⟨h0, _⟩ | ⟨ad, len, cap, m, q, D, Pl, hcs, _, hl, hm, hmm, _, hi⟩
  · have h1 : (Value.slice A n c) = .slice none 0 0 := by simpa [Value.cells] using h0
    injection h1 with h1 h2 h3
    subst h1 h2 h3
    exact ⟨none, 0, 0, fun _ => 0, fun _ => 0, fun _ => 0, fun _ => 0, fun _ => ByteArray.empty, fun _ => none, fun _ => 0, fun _ => 0, fun _ _ => false, rfl, Nat.zero_le _, fun h => absurd h (by omega), fun j hj => absurd hj (by omega), fun j hj => absurd hj (by omega), fun j hj => absurd hj (by omega), fun j hj => absurd hj (by omega), fun j hj => absurd hj (by omega)⟩
  · have h1 : (Value.slice A n c) = .slice (some ad) len cap := by simpa [Value.cells] using hcs
    injection h1 with h1 h2 h3
    subst h1 h2 h3
    simp only [if_true] at hmm
    subst hmm
    rw [hca] at hi
    have hx : ∀ j, j < n → ∃ z : Int × Int × Int × Int × ByteArray × Option Addr × Nat × Nat × (Nat → Bool), OpAt W (ad.add (j * 6)) z.1 z.2.1 z.2.2.1 z.2.2.2.1 z.2.2.2.2.1 z.2.2.2.2.2.1 z.2.2.2.2.2.2.1 z.2.2.2.2.2.2.2.1 z.2.2.2.2.2.2.2.2 := fun j hj => by
      obtain ⟨cs', hc', ht'⟩ := hi j (by omega)
      obtain ⟨_, hcl, hat⟩ := World.cells?_some hc'
      obtain ⟨K, I, T, P, S, A, m, c, keep, ho⟩ := op_at hcl (fun i hi => hat i hi) ht'
      exact ⟨(K, I, T, P, S, A, m, c, keep), ho⟩
    obtain ⟨z, hz⟩ := choose_lt (α := Int × Int × Int × Int × ByteArray × Option Addr × Nat × Nat × (Nat → Bool)) hx
    refine ⟨some ad, n, m, fun j => (z j).1, fun j => (z j).2.1, fun j => (z j).2.2.1, fun j => (z j).2.2.2.1, fun j => (z j).2.2.2.2.1, fun j => (z j).2.2.2.2.2.1, fun j => (z j).2.2.2.2.2.2.1, fun j => (z j).2.2.2.2.2.2.2.1, fun j => (z j).2.2.2.2.2.2.2.2, rfl, Nat.le_trans hl hm, fun hn => ?_, fun j hj => (hz j hj).s, fun j hj => (hz j hj).i, fun j hj => (hz j hj).mz, fun j hj => (hz j hj).k, fun j hj => (hz j hj).f⟩
    have h0 := (hz 0 (by omega)).c0
    have ha0 : (ad.add (0 * 6)).add 0 = ad := by unfold Addr.add; simp
    rw [ha0] at h0
    obtain ⟨e1, e2⟩ := spot_none h0
    refine ⟨ad.block, ad.off, by rw [← e1], e2, fun j hj => ?_⟩
    have g := hz j hj
    have c0 := g.c0
    have c1 := g.c1
    have c2 := g.c2
    have c3 := g.c3
    have c4 := g.c4
    have c5 := g.c5
    rw [e1] at c0 c1 c2 c3 c4 c5
    simp only [Addr.add_mid, Nat.add_zero, Nat.add_assoc] at c0 c1 c2 c3 c4 c5
    simp only [Nat.add_assoc]
    exact ⟨c0, c1, c2, c3, c4, c5⟩

end Go.Proofs.Ytoblkjahohlflaa
