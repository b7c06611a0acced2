/- Rows of calls and of timers that were handed in. -/
import Derived.Test.YtogfpakopckfoaaWhK
import Derived.Test.YtogfpakopckfoaaMem
import Derived.OpenShut
import Derived.ShutString
import Derived.Lib.SmallJoins
namespace Go.Proofs.Ytogfpakopckfoaa.Wl
open Go.ChangeShapes Go.WideShapes Go.ChangeAt Go.RowKit Go.Lib Go.Joins Go.Deep
open Sp
set_option linter.unusedVariables false
set_option maxRecDepth 100000

theorem u64_of {n : Int} (h : (Lit.int .u64 n).wf = true) : 0 ≤ n ∧ n < 18446744073709551616 := by
  simp [Lit.wf] at h
  have h2 : n ≤ 18446744073709551615 := h.2
  exact ⟨h.1, by omega⟩
theorem u32_of {n : Int} (h : (Lit.int .u32 n).wf = true) : 0 ≤ n ∧ n ≤ 4294967295 := by
  simp [Lit.wf] at h
  exact h
structure Opn where
  k : Int
  i : ByteArray
  t : Int
  a : Bool
structure Opn.ok (o : Opn) : Prop where
  i : o.i.size ≤ maxLen
  t : 0 ≤ o.t ∧ o.t < 18446744073709551616
def opC (o : Opn) : List Value := [.int .i64 o.k, .string o.i, .int .u64 o.t, .bool o.a]
/-- Calls that can be read. -/
structure OR (w : World) (A : Option Addr) (n : Nat) (L : List Opn) : Prop where
  len : n = L.length
  c : 0 < n → ∃ g o, A = some ⟨g, o, none⟩ ∧ ∀ i t, L[i]? = some t → ∀ j, j < 4 → w.cell? ⟨g, o + i * 4 + j, none⟩ = (opC t)[j]?
theorem OR.later {w w' : World} {A : Option Addr} {n : Nat} {L : List Opn} (h : OR w A n L) (hb : Below w.heap.size w w') : OR w' A n L :=
  ⟨h.len, fun h0 => by
    obtain ⟨g, o, e, hc⟩ := h.c h0
    refine ⟨g, o, e, fun i t hi j hj => ?_⟩
    have h1 := hc i t hi j hj
    obtain ⟨v, hv⟩ : ∃ v, (opC t)[j]? = some v := ⟨(opC t)[j]'(by simpa [opC] using hj), List.getElem?_eq_getElem (by simpa [opC] using hj)⟩
    rw [hv] at h1 ⊢
    exact (hb.cell (World.block_lt_of_cell? _ _ h1)).trans h1⟩
section
variable {H : Type} {enc : TypeId × Value → H} {W : World}
theorem op_cells {base : Nat} {sp : Nat → Bool} {held : Bool} {fuel : Nat} {v1 v2 v3 v4 : Value} {x : DataW H × List MemPlace} (h : DataW.trod enc Try.prog W base sp held fuel 32 [v1, v2, v3, v4] = some x) :
    ∃ o : Opn, o.ok ∧ [v1, v2, v3, v4] = opC o := by
  obtain ⟨xs, n, _, rfl, _, hlen, hf⟩ := DataW.trod_struct Try.underlying32 h
  match xs, hlen with
  | [y0, y1, y2, y3], _ =>
    have k1 : Try.prog.cellsOf 3 = 1 := by kernel_rfl
    have k2 : Try.prog.cellsOf 9 = 1 := by kernel_rfl
    have k3 : Try.prog.cellsOf 22 = 1 := by kernel_rfl
    have k4 : Try.prog.cellsOf 4 = 1 := by kernel_rfl
    have g0 := hf 0 _ rfl
    have g1 := hf 1 _ rfl
    have g2 := hf 2 _ rfl
    have g3 := hf 3 _ rfl
    simp [k1, k2, k3, k4] at g0 g1 g2 g3
    obtain ⟨k, e0, _, w0⟩ := DataW.trod_int Try.underlying3 g0
    obtain ⟨i, e1, _, w1⟩ := DataW.trod_string Try.underlying9 g1
    obtain ⟨t, e2, _, w2⟩ := DataW.trod_int Try.underlying22 g2
    obtain ⟨a, e3, _⟩ := DataW.trod_bool Try.underlying4 g3
    simp at e0 e1 e2 e3
    subst e0 e1 e2 e3
    exact ⟨⟨k, i, t, a⟩, ⟨w1, u64_of w2⟩, rfl⟩
theorem tm_cells {base : Nat} {sp : Nat → Bool} {held : Bool} {fuel : Nat} {v1 v2 : Value} {x : DataW H × List MemPlace} (h : DataW.trod enc Try.prog W base sp held fuel 41 [v1, v2] = some x) :
    ∃ o : Tm, (o.i.size ≤ maxLen ∧ 0 ≤ o.d ∧ o.d < 18446744073709551616) ∧ [v1, v2] = tmC o := by
  obtain ⟨xs, n, _, rfl, _, hlen, hf⟩ := DataW.trod_struct Try.underlying41 h
  match xs, hlen with
  | [y0, y1], _ =>
    have k2 : Try.prog.cellsOf 9 = 1 := by kernel_rfl
    have k3 : Try.prog.cellsOf 22 = 1 := by kernel_rfl
    have g0 := hf 0 _ rfl
    have g1 := hf 1 _ rfl
    simp [k2, k3] at g0 g1
    obtain ⟨i, e1, _, w1⟩ := DataW.trod_string Try.underlying9 g0
    obtain ⟨t, e2, _, w2⟩ := DataW.trod_int Try.underlying22 g1
    simp at e1 e2
    subst e1 e2
    exact ⟨⟨i, t⟩, ⟨w1, u64_of w2⟩, rfl⟩
/-- A row of structs of c cells that was handed in. -/
theorem open_structs {α : Type} [Inhabited α] {r : Reach} {b0 : Nat} {v : Value} {d : DataW H} {p : List MemPlace} {t e : TypeId} (ht : Try.prog.underlying t = some (.slice e)) {c : Nat} (hc0 : 0 < c) (hca : Try.prog.cellsOf e = c) (enc' : α → List Value) (hce : ∀ x, (enc' x).length = c) (h0c : ∀ x, ∃ u, (enc' x)[0]? = some u) (ok : α → Prop)
    (hread : ∀ (fuel : Nat) (cs : List Value) x, cs.length = c → DataW.trod enc Try.prog W 0 (fun _ => true) true fuel e cs = some x → ∃ o : α, ok o ∧ cs = enc' o)
    (hv : Value.okWide Try.prog W r b0 t v) (h : DataW.Trod enc Try.prog W 0 (fun _ => true) true t v d p) :
    ∃ (A : Option Addr) (n cp : Nat) (L : List α), v = .slice A n cp ∧ n ≤ maxLen ∧ n = L.length ∧ (∀ x ∈ L, ok x) ∧ (0 < n → ∃ g o, A = some ⟨g, o, none⟩ ∧ ∀ i t, L[i]? = some t → ∀ j, j < c → W.cell? ⟨g, o + i * c + j, none⟩ = (enc' t)[j]?) := by
  obtain ⟨A, n, cp, rfl⟩ := okWide_slice ht hv
  obtain ⟨fuel, hf⟩ := h
  rcases open_slice ht hf with ⟨h0, _⟩ | ⟨ad, len, cap, m, q, D, Pl, hcs, _, hl, hm, hmm, _, hi⟩
  · have h1 : (Value.slice A n cp) = .slice none 0 0 := by simpa [Value.cells] using h0
    injection h1 with h1 h2 h3
    subst h1 h2 h3
    exact ⟨none, 0, 0, [], rfl, Nat.zero_le _, rfl, by simp, by intro h; omega⟩
  · have h1 : (Value.slice A n cp) = .slice (some ad) len cap := by simpa [Value.cells] using hcs
    injection h1 with h1 h2 h3
    subst h1 h2 h3
    simp only [if_true] at hmm
    subst hmm
    rw [hca] at hi
    have hx : ∀ j, j < n → ∃ z : α, ok z ∧ ∀ i, i < c → W.cell? ((ad.add (j * c)).add i) = (enc' z)[i]? := fun j hj => by
      obtain ⟨cs', hc', ht'⟩ := hi j (by omega)
      obtain ⟨_, hcl, hat⟩ := World.cells?_some hc'
      obtain ⟨o, ho, rfl⟩ := hread _ _ _ hcl ht'
      exact ⟨o, ho, fun i hi => hat i hi⟩
    obtain ⟨z, hz⟩ := choose_lt (α := α) hx
    refine ⟨some ad, n, m, (List.range n).map z, rfl, Nat.le_trans hl hm, by simp, fun x hx => ?_, fun hn => ?_⟩
    · obtain ⟨j, hj, rfl⟩ := List.mem_map.1 hx
      exact (hz j (List.mem_range.1 hj)).1
    · obtain ⟨u, hu⟩ := h0c (z 0)
      have h0 := (hz 0 (by omega)).2 0 hc0
      rw [hu] at h0
      have ha0 : (ad.add (0 * c)).add 0 = ad := by unfold Addr.add; simp
      rw [ha0] at h0
      obtain ⟨e1, e2⟩ := spot_none h0
      refine ⟨ad.block, ad.off, by rw [← e1], fun i t hi j hj => ?_⟩
      have hin : i < n := by have := (List.getElem?_eq_some_iff.1 hi).1; simpa using this
      have hr : t = z i := by
        rw [List.getElem?_map, List.getElem?_range hin] at hi
        simpa using hi.symm
      subst hr
      have c0 := (hz i hin).2 j hj
      rw [e1] at c0
      simp only [Addr.add_mid, Nat.add_assoc] at c0
      simp only [Nat.add_assoc]
      exact c0
instance : Inhabited Opn := ⟨⟨0, .empty, 0, false⟩⟩
instance : Inhabited Tm := ⟨⟨.empty, 0⟩⟩
theorem open_opns {r : Reach} {b0 : Nat} {v : Value} {d : DataW H} {p : List MemPlace} (hv : Value.okWide Try.prog W r b0 23 v) (h : DataW.Trod enc Try.prog W 0 (fun _ => true) true 23 v d p) :
    ∃ (A : Option Addr) (n c : Nat) (L : List Opn), v = .slice A n c ∧ n ≤ maxLen ∧ OR W A n L ∧ ∀ x ∈ L, x.ok := by
  obtain ⟨A, n, c, L, e, hn, hl, ho, hc⟩ := open_structs Try.underlying23 (c := 4) (by decide) (by kernel_rfl) opC (fun _ => rfl) (fun x => ⟨_, rfl⟩) Opn.ok (fun fuel cs x hcl hx => by
    match cs, hcl with
    | [v0, v1, v2, v3], _ => exact op_cells hx) hv h
  exact ⟨A, n, c, L, e, hn, ⟨hl, hc⟩, ho⟩
theorem open_timers {r : Reach} {b0 : Nat} {v : Value} {d : DataW H} {p : List MemPlace} (hv : Value.okWide Try.prog W r b0 38 v) (h : DataW.Trod enc Try.prog W 0 (fun _ => true) true 38 v d p) :
    ∃ (A : Option Addr) (n c : Nat) (L : List Tm), v = .slice A n c ∧ n ≤ maxLen ∧ TR W A n L ∧ ∀ x ∈ L, x.i.size ≤ maxLen ∧ 0 ≤ x.d ∧ x.d < 18446744073709551616 := by
  obtain ⟨A, n, c, L, e, hn, hl, ho, hc⟩ := open_structs Try.underlying38 (c := 2) (by decide) (by kernel_rfl) tmC (fun _ => rfl) (fun x => ⟨_, rfl⟩) (fun x => x.i.size ≤ maxLen ∧ 0 ≤ x.d ∧ x.d < 18446744073709551616) (fun fuel cs x hcl hx => by
    match cs, hcl with
    | [v0, v1], _ => exact tm_cells hx) hv h
  exact ⟨A, n, c, L, e, hn, ⟨hl, fun h0 => by
    obtain ⟨g, o, ea, hh⟩ := hc h0
    exact ⟨g, o, ea, fun i t hi => ⟨hh i t hi 0 (by decide), hh i t hi 1 (by decide)⟩⟩⟩, ho⟩
end
end Go.Proofs.Ytogfpakopckfoaa.Wl
