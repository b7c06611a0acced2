/- A checkpoint, and a third one with a place, among the arguments of a statement: what their values are. -/
import Derived.Test.YtdnkhjikfdalbaaCpA
import Derived.Lib.SmallJoins
namespace Go.Proofs.Ytdnkhjikfdalbaa
open Go.ChangeShapes Go.WideShapes Go.ChangeAt Go.RowKit Go.Lib Go.Joins Go.Deep
set_option linter.unusedVariables false

theorem array6 {α : Type} {cs : Array α} (h : cs.size = 6) : ∃ c0 c1 c2 c3 c4 c5, cs = #[c0, c1, c2, c3, c4, c5] := by
  obtain ⟨l⟩ := cs
  match l, h with
  | [c0, c1, c2, c3, c4, c5], _ => exact ⟨c0, c1, c2, c3, c4, c5, rfl⟩
theorem array7 {α : Type} {cs : Array α} (h : cs.size = 7) : ∃ c0 c1 c2 c3 c4 c5 c6, cs = #[c0, c1, c2, c3, c4, c5, c6] := by
  obtain ⟨l⟩ := cs
  match l, h with
  | [c0, c1, c2, c3, c4, c5, c6], _ => exact ⟨c0, c1, c2, c3, c4, c5, c6, rfl⟩
theorem u64_of {n : Int} (h : (Lit.int .u64 n).wf = true) : 0 ≤ n ∧ n < 18446744073709551616 := by
  simp [Lit.wf] at h
  have h2 : n ≤ 18446744073709551615 := h.2
  exact ⟨h.1, by omega⟩
theorem u32_of {n : Int} (h : (Lit.int .u32 n).wf = true) : 0 ≤ n ∧ n < 4294967296 := by
  simp [Lit.wf] at h
  have h2 : n ≤ 4294967295 := h.2
  exact ⟨h.1, by omega⟩

section
variable {H : Type} {enc : TypeId × Value → H} {W : World}
theorem trod_ints {fuel : Nat} {v : Value} {x : DataW H × List MemPlace}
    (hf : DataW.trod enc Try.prog W 0 (fun _ => true) true fuel 24 [v] = some x) :
    ∃ A n c, ∃ l : List Int, v = .slice A n c ∧ n ≤ maxLen ∧ n ≤ c ∧ Sl W A n l := by
  rcases open_slice1 Try.underlying24 (by kernel_rfl) hf with ⟨h0, _⟩ | ⟨a, len, cap, m, k, V, D, Pl, hcs, _, hl, hm, hmm, _, hi⟩
  · obtain rfl : v = .slice none 0 0 := by simpa using h0
    exact ⟨none, 0, 0, [], rfl, Nat.zero_le _, Nat.le_refl _, Sl.nil W⟩
  · obtain rfl : v = .slice (some a) len cap := by simpa using hcs
    simp only [if_true] at hmm
    subst hmm
    obtain ⟨f, hf⟩ := choose_lt (α := Int) (n := len) (p := fun j z => V j = .int .i64 z) (fun j hj => by
      obtain ⟨z, e1, _⟩ := DataW.trod_int Try.underlying3 (hi j (by omega)).2
      exact ⟨z, by simpa using e1⟩)
    refine ⟨some a, len, m, (List.range len).map f, rfl, Nat.le_trans hl hm, hl, by simp, fun hn => ?_⟩
    have h0 := (hi 0 (by omega)).1
    have ha : a.add 0 = a := by unfold Addr.add; simp
    rw [ha] at h0
    obtain ⟨e1, e2⟩ := spot_none h0
    refine ⟨a.block, a.off, by rw [← e1], e2, fun j hj => ?_⟩
    have := (hi j (by omega)).1
    rw [e1, Addr.add_mid, hf j hj] at this
    simp only [nth_map hj]
    exact this

theorem chk_of {fuel : Nat} {c0 c1 c2 c3 c4 c5 : Value} {x : DataW H × List MemPlace} (hf : DataW.trod enc Try.prog W 0 (fun _ => true) true fuel 26 [c0, c1, c2, c3, c4, c5] = some x) :
    ∃ (g e l v : Int) (A : Option Addr) (m p : Nat) (B : Option Addr) (k q : Nat) (o n : List Int), #[c0, c1, c2, c3, c4, c5] = #[.int .u64 g, .int .u32 e, .int .u64 l, .int .u64 v, .slice A m p, .slice B k q] ∧ (0 ≤ g ∧ g < 18446744073709551616) ∧ (0 ≤ e ∧ e < 4294967296) ∧ (0 ≤ l ∧ l < 18446744073709551616) ∧ (0 ≤ v ∧ v < 18446744073709551616) ∧ Sl W A m o ∧ Sl W B k n ∧ (m ≤ maxLen ∧ k ≤ maxLen) ∧ (m ≤ p ∧ k ≤ q) := by
  obtain ⟨xs, n, _, rfl, _, hlen, hff⟩ := DataW.trod_struct Try.underlying26 hf
  match xs, hlen with
  | [y0, y1, y2, y3, y4, y5], _ =>
    have k1 : Try.prog.cellsOf 22 = 1 := by kernel_rfl
    have k2 : Try.prog.cellsOf 23 = 1 := by kernel_rfl
    have k3 : Try.prog.cellsOf 24 = 1 := by kernel_rfl
    have g0 := hff 0 _ rfl
    have g1 := hff 1 _ rfl
    have g2 := hff 2 _ rfl
    have g3 := hff 3 _ rfl
    have g4 := hff 4 _ rfl
    have g5 := hff 5 _ rfl
    simp [k1, k2, k3] at g0 g1 g2 g3 g4 g5
    obtain ⟨g, e0, _, w0⟩ := DataW.trod_int Try.underlying22 g0
    obtain ⟨e, e1, _, w1⟩ := DataW.trod_int Try.underlying23 g1
    obtain ⟨l, e2, _, w2⟩ := DataW.trod_int Try.underlying22 g2
    obtain ⟨v, e3, _, w3⟩ := DataW.trod_int Try.underlying22 g3
    obtain ⟨A, m, p, o, rfl, hm, hp, sa⟩ := trod_ints g4
    obtain ⟨B, k, q, nn, rfl, hk, hq, sb⟩ := trod_ints g5
    simp at e0 e1 e2 e3
    subst e0 e1 e2 e3
    exact ⟨g, e, l, v, A, m, p, B, k, q, o, nn, rfl, u64_of w0, u32_of w1, u64_of w2, u64_of w3, sa, sb, ⟨hm, hk⟩, ⟨hp, hq⟩⟩

/-- A checkpoint that is an argument. -/
theorem open_chk {b0 : Nat} {r : Reach} {x : Value} {y : DataW H} {ps : List MemPlace}
    (hv : Value.okWide Try.prog W r b0 26 x) (h : DataW.Trod enc Try.prog W 0 (fun _ => true) true 26 x y ps) :
    ∃ (g e l v : Int) (A : Option Addr) (m p : Nat) (B : Option Addr) (k q : Nat) (o n : List Int), x = .agg #[.int .u64 g, .int .u32 e, .int .u64 l, .int .u64 v, .slice A m p, .slice B k q] ∧ (0 ≤ g ∧ g < 18446744073709551616) ∧ (0 ≤ e ∧ e < 4294967296) ∧ (0 ≤ l ∧ l < 18446744073709551616) ∧ (0 ≤ v ∧ v < 18446744073709551616) ∧ Sl W A m o ∧ Sl W B k n ∧ (m ≤ maxLen ∧ k ≤ maxLen) ∧ (m ≤ p ∧ k ≤ q) := by
  obtain ⟨cs, rfl, hsz⟩ := okWide_struct Try.underlying26 hv
  obtain ⟨c0, c1, c2, c3, c4, c5, rfl⟩ := array6 (hsz.trans (by kernel_rfl))
  obtain ⟨fuel, hf⟩ := h
  obtain ⟨g, e, l, v, A, m, p, B, k, q, o, n, hc, hr⟩ := chk_of (by simpa [Value.cells] using hf)
  exact ⟨g, e, l, v, A, m, p, B, k, q, o, n, by rw [hc], hr⟩

set_option maxRecDepth 100000 in
/-- A third checkpoint, and where it is torn. -/
theorem open_third {b0 : Nat} {r : Reach} {x : Value} {y : DataW H} {ps : List MemPlace}
    (hv : Value.okWide Try.prog W r b0 49 x) (h : DataW.Trod enc Try.prog W 0 (fun _ => true) true 49 x y ps) :
    ∃ (g e l v : Int) (A : Option Addr) (m p : Nat) (B : Option Addr) (k q : Nat) (o n : List Int) (t : Int), x = .agg #[.int .u64 g, .int .u32 e, .int .u64 l, .int .u64 v, .slice A m p, .slice B k q, .int .u8 t] ∧ (0 ≤ g ∧ g < 18446744073709551616) ∧ (0 ≤ e ∧ e < 4294967296) ∧ (0 ≤ l ∧ l < 18446744073709551616) ∧ (0 ≤ v ∧ v < 18446744073709551616) ∧ Sl W A m o ∧ Sl W B k n ∧ (m ≤ maxLen ∧ k ≤ maxLen) ∧ (m ≤ p ∧ k ≤ q) ∧ (0 ≤ t ∧ t < 256) := by
  obtain ⟨cs, rfl, hsz⟩ := okWide_struct Try.underlying49 hv
  obtain ⟨c0, c1, c2, c3, c4, c5, c6, rfl⟩ := array7 (hsz.trans (by kernel_rfl))
  obtain ⟨fuel, hf⟩ := h
  obtain ⟨xs, n, _, _, _, hlen, hff⟩ := DataW.trod_struct Try.underlying49 (by simpa [Value.cells] using hf)
  match xs, hlen with
  | [y0, y1], _ =>
    have k1 : Try.prog.cellsOf 26 = 6 := by kernel_rfl
    have k2 : Try.prog.cellsOf 5 = 1 := by kernel_rfl
    have g0 := hff 0 _ rfl
    have g1 := hff 1 _ rfl
    simp [k1, k2] at g0 g1
    obtain ⟨t, e1, _, w1⟩ := DataW.trod_int Try.underlying5 g1
    obtain ⟨g, e, l, v, A, m, p, B, k, q, o, n', hc, hr⟩ := chk_of g0
    simp at e1 hc
    obtain ⟨rfl, rfl, rfl, rfl, rfl, rfl⟩ := hc
    subst e1
    exact ⟨g, e, l, v, A, m, p, B, k, q, o, n', t, rfl, hr.1, hr.2.1, hr.2.2.1, hr.2.2.2.1, hr.2.2.2.2.1, hr.2.2.2.2.2.1, hr.2.2.2.2.2.2.1, hr.2.2.2.2.2.2.2, u8_of w1⟩
end
end Go.Proofs.Ytdnkhjikfdalbaa
