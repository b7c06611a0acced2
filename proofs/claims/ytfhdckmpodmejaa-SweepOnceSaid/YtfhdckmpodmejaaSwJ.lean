/- A state, a call, and a list of calls among the arguments. -/
import Derived.Test.YtfhdckmpodmejaaSwH
namespace Go.Proofs.Ytfhdckmpodmejaa.Sw
open Go.ChangeShapes Go.WideShapes Go.ChangeAt Go.RowKit Go.Lib Go.Joins Go.Deep
open Sp Rw
set_option linter.unusedVariables false
set_option maxRecDepth 100000

/-- A call: its kind, a segment, a number, segments, and where they lie. -/
structure Cl where
  k : Int
  s : Int
  n : Int
  A : Option Addr
  m : Nat
  c : Nat
  l : List Int
deriving Inhabited
abbrev clC (o : Cl) : List Value := [.int .i64 o.k, .int .i64 o.s, .int .i64 o.n, .slice o.A o.m o.c]
structure ClIn (w : World) (o : Cl) : Prop where
  r : VR w o.A o.m (iv o.l)
  c : o.m ≤ o.c
theorem ClIn.later {w w' : World} {o : Cl} (h : ClIn w o) (hb : Below w.heap.size w w') : ClIn w' o := ⟨h.r.later hb, h.c⟩
/-- A row of calls. -/
structure CW (w : World) (A : Option Addr) (n : Nat) (L : List Cl) : Prop where
  len : n = L.length
  rc : 0 < n → ∃ g o, A = some ⟨g, o, none⟩ ∧ ∀ i j r, L[i]? = some r → j < 4 → w.cell? ⟨g, o + i * 4 + j, none⟩ = (clC r)[j]?
  ok : ∀ x ∈ L, ClIn w x
section
variable {H : Type} {enc : TypeId × Value → H} {W : World} {b0 : Nat} {r' : Reach} {v : Value} {y : DataW H} {ps : List MemPlace}
theorem trod_ints {fuel : Nat} {v : Value} {x : DataW H × List MemPlace} (hf : DataW.trod enc Try.prog W 0 (fun _ => true) true fuel 23 [v] = some x) :
    ∃ (A : Option Addr) (m c : Nat) (l : List Int), v = .slice A m c ∧ VR W A m (iv l) ∧ m ≤ c := by
  rcases open_slice1 Try.underlying23 (by kernel_rfl) hf with ⟨h0, _⟩ | ⟨a, len, cap, m, k, V, D, Pl, hcs, _, hl, hm, hmm, _, hi⟩
  · obtain rfl : v = .slice none 0 0 := by simpa using h0
    exact ⟨none, 0, 0, [], rfl, VR.nil _ _, Nat.le_refl _⟩
  · obtain rfl : v = .slice (some a) len cap := by simpa using hcs
    simp only [if_true] at hmm
    subst hmm
    obtain ⟨f, hf⟩ := choose_lt (α := Int) (n := len) (p := fun j z => V j = .int .i64 z) (fun j hj => by
      obtain ⟨z, e1, _⟩ := DataW.trod_int Try.underlying3 (hi j (by omega)).2
      exact ⟨z, by simpa using e1⟩)
    refine ⟨some a, len, m, (List.range len).map f, rfl, VR.of_cells fun hn => ?_, hl⟩
    have h0 := (hi 0 (by omega)).1
    have ha : a.add 0 = a := by unfold Addr.add; simp
    rw [ha] at h0
    obtain ⟨e1, e2⟩ := spot_none h0
    refine ⟨a.block, a.off, by rw [← e1], e2, fun j hj => ?_⟩
    have := (hi j (by omega)).1
    rw [e1, Addr.add_mid, hf j hj] at this
    exact this
theorem array4 {α : Type} {cs : Array α} (h : cs.size = 4) : ∃ c0 c1 c2 c3, cs = #[c0, c1, c2, c3] := by
  obtain ⟨l⟩ := cs
  match l, h with
  | [c0, c1, c2, c3], _ => exact ⟨c0, c1, c2, c3, rfl⟩
/-- A state by value. -/
theorem open_state (hv : Value.okWide Try.prog W r' b0 25 v) (h : DataW.Trod enc Try.prog W 0 (fun _ => true) true 25 v y ps) :
    ∃ (s : St) (A : Option Addr) (p : Nat), v = .agg (sc s A p) ∧ VR W A s.t.length (iv s.t) ∧ s.t.length ≤ p := by
  obtain ⟨cs, rfl, hsz⟩ := okWide_struct Try.underlying25 hv
  obtain ⟨c0, c1, c2, c3, rfl⟩ := array4 (hsz.trans (by kernel_rfl))
  obtain ⟨fuel, hf⟩ := h
  obtain ⟨xs, n, _, _, _, hlen, hff⟩ := DataW.trod_struct Try.underlying25 (by simpa [Value.cells] using hf)
  match xs, hlen with
  | [y0, y1, y2, y3], _ =>
    have k1 : Try.prog.cellsOf 3 = 1 := by kernel_rfl
    have k2 : Try.prog.cellsOf 23 = 1 := by kernel_rfl
    have g0 := hff 0 _ rfl
    have g1 := hff 1 _ rfl
    have g2 := hff 2 _ rfl
    have g3 := hff 3 _ rfl
    simp [k1, k2] at g0 g1 g2 g3
    obtain ⟨A, m, c, l, rfl, h1, h2⟩ := trod_ints g0
    obtain ⟨K, e1, _⟩ := DataW.trod_int Try.underlying3 g1
    obtain ⟨T, e2, _⟩ := DataW.trod_int Try.underlying3 g2
    obtain ⟨R, e3, _⟩ := DataW.trod_int Try.underlying3 g3
    simp at e1 e2 e3
    subst e1 e2 e3
    obtain rfl : m = l.length := by rw [← iv_len]; exact h1.len
    exact ⟨⟨l, K, T, R⟩, A, c, rfl, h1, h2⟩
theorem cl_cells {fuel : Nat} {v0 v1 v2 v3 : Value} {x : DataW H × List MemPlace} (h : DataW.trod enc Try.prog W 0 (fun _ => true) true fuel 32 [v0, v1, v2, v3] = some x) :
    ∃ o : Cl, [v0, v1, v2, v3] = clC o ∧ ClIn W o := by
  obtain ⟨xs, n, _, rfl, _, hlen, hff⟩ := DataW.trod_struct Try.underlying32 h
  match xs, hlen with
  | [y0, y1, y2, y3], _ =>
    have k1 : Try.prog.cellsOf 3 = 1 := by kernel_rfl
    have k2 : Try.prog.cellsOf 23 = 1 := by kernel_rfl
    have g0 := hff 0 _ rfl
    have g1 := hff 1 _ rfl
    have g2 := hff 2 _ rfl
    have g3 := hff 3 _ rfl
    simp [k1, k2] at g0 g1 g2 g3
    obtain ⟨K, e0, _⟩ := DataW.trod_int Try.underlying3 g0
    obtain ⟨S, e1, _⟩ := DataW.trod_int Try.underlying3 g1
    obtain ⟨N, e2, _⟩ := DataW.trod_int Try.underlying3 g2
    obtain ⟨A, m, c, l, rfl, h1, h2⟩ := trod_ints g3
    simp at e0 e1 e2
    subst e0 e1 e2
    exact ⟨⟨K, S, N, A, m, c, l⟩, rfl, ⟨h1, h2⟩⟩
/-- A call by value. -/
theorem open_cl (hv : Value.okWide Try.prog W r' b0 32 v) (h : DataW.Trod enc Try.prog W 0 (fun _ => true) true 32 v y ps) :
    ∃ o : Cl, v = .agg #[.int .i64 o.k, .int .i64 o.s, .int .i64 o.n, .slice o.A o.m o.c] ∧ ClIn W o := by
  obtain ⟨cs, rfl, hsz⟩ := okWide_struct Try.underlying32 hv
  obtain ⟨c0, c1, c2, c3, rfl⟩ := array4 (hsz.trans (by kernel_rfl))
  obtain ⟨fuel, hf⟩ := h
  obtain ⟨o, e, ho⟩ := cl_cells (v0 := c0) (v1 := c1) (v2 := c2) (v3 := c3) (by simpa [Value.cells] using hf)
  refine ⟨o, ?_, ho⟩
  simp only [clC, List.cons.injEq, and_true] at e
  obtain ⟨rfl, rfl, rfl, rfl⟩ := e
  rfl
/-- A list of calls. -/
theorem open_cls (hv : Value.okWide Try.prog W r' b0 22 v) (h : DataW.Trod enc Try.prog W 0 (fun _ => true) true 22 v y ps) :
    ∃ (A : Option Addr) (n c : Nat) (L : List Cl), v = .slice A n c ∧ n ≤ maxLen ∧ CW W A n L := by
  have ht := Try.underlying22
  obtain ⟨A, n, c, rfl⟩ := okWide_slice ht hv
  obtain ⟨fuel, hf⟩ := h
  have hca : Try.prog.cellsOf 32 = 4 := by kernel_rfl
  rcases open_slice ht hf with ⟨h0, _⟩ | ⟨ad, len, cap, m, q, D, Pl, hcs, _, hl, hm, hmm, _, hi⟩
  · have h1 : (Value.slice A n c) = .slice none 0 0 := by simpa [Value.cells] using h0
    injection h1 with h1 h2 h3
    subst h1 h2 h3
    exact ⟨none, 0, 0, [], rfl, Nat.zero_le _, ⟨rfl, fun h => by omega, by simp⟩⟩
  · have h1 : (Value.slice A n c) = .slice (some ad) len cap := by simpa [Value.cells] using hcs
    injection h1 with h1 h2 h3
    subst h1 h2 h3
    simp only [if_true] at hmm
    subst hmm
    rw [hca] at hi
    have hx : ∀ j, j < n → ∃ z : Cl, ClIn W z ∧ ∀ i, i < 4 → W.cell? ((ad.add (j * 4)).add i) = (clC z)[i]? := fun j hj => by
      obtain ⟨cs', hc', ht'⟩ := hi j (by omega)
      obtain ⟨_, hcl, hat⟩ := World.cells?_some hc'
      match cs', hcl with
      | [v0, v1, v2, v3], _ =>
        obtain ⟨o, e, ho⟩ := cl_cells ht'
        exact ⟨o, ho, fun i hi => by rw [← e]; exact hat i hi⟩
    obtain ⟨z, hz⟩ := choose_lt (α := Cl) hx
    refine ⟨some ad, n, m, (List.range n).map z, rfl, Nat.le_trans hl hm, ⟨by simp, fun hn => ?_, fun x hx => ?_⟩⟩
    · have h0 := (hz 0 (by omega)).2 0 (by omega)
      have ha0 : (ad.add (0 * 4)).add 0 = ad := by unfold Addr.add; simp
      rw [ha0] at h0
      obtain ⟨e1, e2⟩ := spot_none h0
      refine ⟨ad.block, ad.off, by rw [← e1], fun i j r hi hj => ?_⟩
      have hin : i < n := by have := (List.getElem?_eq_some_iff.1 hi).1; simpa using this
      have hr : r = z i := by
        rw [List.getElem?_map, List.getElem?_range hin] at hi
        simpa using hi.symm
      subst hr
      have c0 := (hz i hin).2 j hj
      rw [e1] at c0
      simp only [Addr.add_mid, Nat.add_assoc] at c0
      simp only [Nat.add_assoc]
      exact c0
    · obtain ⟨j, hj, rfl⟩ := List.mem_map.1 hx
      exact (hz j (List.mem_range.1 hj)).1
end
theorem CW.later {w w' : World} {A : Option Addr} {n : Nat} {L : List Cl} (h : CW w A n L) (hb : Below w.heap.size w w') : CW w' A n L :=
  ⟨h.len, fun h0 => by
    obtain ⟨g, o, e, hc⟩ := h.rc h0
    refine ⟨g, o, e, fun i j r hi hj => ?_⟩
    have := hc i j r hi hj
    have h4 : ∃ u, (clC r)[j]? = some u := ⟨_, List.getElem?_eq_getElem (by simpa using hj)⟩
    obtain ⟨u, hu⟩ := h4
    rw [hu] at this ⊢
    exact (hb.cell (World.block_lt_of_cell? _ _ this)).trans this, fun x hx => (h.ok x hx).later hb⟩
set_option maxHeartbeats 1000000 in
theorem ref_any (t m p : Nat) (A : Option Addr) (v c n : Int) (w : World) :
    Calls Try.prog 21 #[.agg #[.slice A m p, .int .i64 v, .int .i64 c, .int .i64 n]] w fun e w' => e = .returned (.agg #[.slice A m p, .int .i64 v, .int .i64 c, .int .i64 n]) ∧ Below w.heap.size w w' := by
  go_enter Try.func21, Try.ntmps21
  go_wp2_with fail
  refine bodyPost_ret (res_r1 rfl _ _ _ rfl (Sp.Blk.at_ _ _ _ (by simp))) rfl ?_
  exact ⟨rfl, (below1 _ _).alloc (by simp) _⟩
/-- With at most 20 segments. -/
theorem cut20 (n : Nat) : ∃ m : Nat, (m : Int) = min (n : Int) 20 ∧ m ≤ n ∧ m ≤ 20 := ⟨min n 20, by omega, Nat.min_le_left _ _, Nat.min_le_right _ _⟩
set_option maxHeartbeats 1000000 in
theorem cut_any (s : St) (A : Option Addr) (p : Nat) (w : World) (hp : s.t.length ≤ p) :
    Calls Try.prog 19 #[.agg (sc s A p)] w fun e w' => e = .returned (.agg (sc ⟨s.t.take 20, s.v, s.c, s.n⟩ A p)) ∧ Below w.heap.size w w' := by
  obtain ⟨m, h1, h2, h3⟩ := cut20 s.t.length
  have hmin := h1.symm
  have hm : (s.t.take 20).length = m := by rw [List.length_take]; omega
  have hm0 : (0 : Int) ≤ (m : Int) := by omega
  have hmc : (m : Int) ≤ (p : Int) := by omega
  have HM := Lib.hid hm
  clear h1 h2 h3 hm hp
  go_enter Try.func19, Try.ntmps19
  go_wp2_with fail
  refine bodyPost_ret (res_p1 rfl _ _ _ rfl (Sp.Blk.at_ _ _ _ (by simp))) rfl ?_
  refine ⟨?_, (below1 _ _).alloc (by simp) _⟩
  rw [show (sc ⟨s.t.take 20, s.v, s.c, s.n⟩ A p) = #[.slice A m p, .int .i64 s.v, .int .i64 s.c, .int .i64 s.n] by rw [← HM.out]]
end Go.Proofs.Ytfhdckmpodmejaa.Sw
