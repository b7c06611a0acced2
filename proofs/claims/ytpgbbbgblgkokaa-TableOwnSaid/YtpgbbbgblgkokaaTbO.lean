/- A table among the arguments of a statement: what its value is. -/
import Derived.Test.YtpgbbbgblgkokaaTbA
import Derived.Lib.SmallJoins
namespace Go.Proofs.Ytpgbbbgblgkokaa
open Go.ChangeShapes Go.WideShapes Go.ChangeAt Go.RowKit Go.Lib Go.Joins Go.Deep
set_option linter.unusedVariables false

theorem array5 {α : Type} {cs : Array α} (h : cs.size = 5) : ∃ c0 c1 c2 c3 c4, cs = #[c0, c1, c2, c3, c4] := by
  obtain ⟨l⟩ := cs
  match l, h with
  | [c0, c1, c2, c3, c4], _ => exact ⟨c0, c1, c2, c3, c4, rfl⟩
theorem array3 {α : Type} {cs : Array α} (h : cs.size = 3) : ∃ c0 c1 c2, cs = #[c0, c1, c2] := by
  obtain ⟨l⟩ := cs
  match l, h with
  | [c0, c1, c2], _ => exact ⟨c0, c1, c2, rfl⟩

section
variable {H : Type} {enc : TypeId × Value → H} {W : World}
theorem trod_ints {fuel : Nat} {v : Value} {x : DataW H × List MemPlace}
    (hf : DataW.trod enc Try.prog W 0 (fun _ => true) true fuel 25 [v] = some x) :
    ∃ A n c, ∃ l : List Int, v = .slice A n c ∧ n ≤ maxLen ∧ n ≤ c ∧ Sl .i64 W A n l := by
  rcases open_slice1 Try.underlying25 (by kernel_rfl) hf with ⟨h0, _⟩ | ⟨a, len, cap, m, k, V, D, Pl, hcs, _, hl, hm, hmm, _, hi⟩
  · obtain rfl : v = .slice none 0 0 := by simpa using h0
    exact ⟨none, 0, 0, [], rfl, Nat.zero_le _, Nat.le_refl _, Sl.nil _ W⟩
  · obtain rfl : v = .slice (some a) len cap := by simpa using hcs
    simp only [if_true] at hmm
    subst hmm
    obtain ⟨f, hf⟩ := choose_lt (α := Int) (n := len) (p := fun j z => V j = .int .i64 z) (fun j hj => by
      obtain ⟨z, e1, _⟩ := DataW.trod_int Try.underlying3 (hi j (by omega)).2
      exact ⟨z, by simpa using e1⟩)
    refine ⟨some a, len, m, (List.range len).map f, rfl, Nat.le_trans hl hm, hl, by simp, fun hn => ?_⟩
    have h0 := (hi 0 (by omega)).1
    have ha : a.add 0 = a := by unfold Addr.add; simp
    rw [ha] at h0
    obtain ⟨e1, e2⟩ := spot_none h0
    refine ⟨a.block, a.off, by rw [← e1], e2, fun j hj => ?_⟩
    have := (hi j (by omega)).1
    rw [e1, Addr.add_mid, hf j hj] at this
    refine this.trans ?_
    simp [nth, List.getD, hj]
theorem trod_u64s {fuel : Nat} {v : Value} {x : DataW H × List MemPlace}
    (hf : DataW.trod enc Try.prog W 0 (fun _ => true) true fuel 26 [v] = some x) :
    ∃ A n c, ∃ l : List Int, v = .slice A n c ∧ n ≤ maxLen ∧ n ≤ c ∧ Sl .u64 W A n l := by
  rcases open_slice1 Try.underlying26 (by kernel_rfl) hf with ⟨h0, _⟩ | ⟨a, len, cap, m, k, V, D, Pl, hcs, _, hl, hm, hmm, _, hi⟩
  · obtain rfl : v = .slice none 0 0 := by simpa using h0
    exact ⟨none, 0, 0, [], rfl, Nat.zero_le _, Nat.le_refl _, Sl.nil _ W⟩
  · obtain rfl : v = .slice (some a) len cap := by simpa using hcs
    simp only [if_true] at hmm
    subst hmm
    obtain ⟨f, hf⟩ := choose_lt (α := Int) (n := len) (p := fun j z => V j = .int .u64 z) (fun j hj => by
      obtain ⟨z, e1, _⟩ := DataW.trod_int Try.underlying23 (hi j (by omega)).2
      exact ⟨z, by simpa using e1⟩)
    refine ⟨some a, len, m, (List.range len).map f, rfl, Nat.le_trans hl hm, hl, by simp, fun hn => ?_⟩
    have h0 := (hi 0 (by omega)).1
    have ha : a.add 0 = a := by unfold Addr.add; simp
    rw [ha] at h0
    obtain ⟨e1, e2⟩ := spot_none h0
    refine ⟨a.block, a.off, by rw [← e1], e2, fun j hj => ?_⟩
    have := (hi j (by omega)).1
    rw [e1, Addr.add_mid, hf j hj] at this
    refine this.trans ?_
    simp [nth, List.getD, hj]

/-- A table that is an argument. -/
theorem open_tab {b0 : Nat} {r' : Reach} {x : Value} {y : DataW H} {ps : List MemPlace}
    (hv : Value.okWide Try.prog W r' b0 28 x) (h : DataW.Trod enc Try.prog W 0 (fun _ => true) true 28 x y ps) :
    ∃ (sg st : Int) (A : Option Addr) (m p : Nat) (B : Option Addr) (k q : Nat) (C : Option Addr) (n r : Nat) (o l f : List Int), x = .agg #[.int .i64 sg, .int .i64 st, .slice A m p, .slice B k q, .slice C n r] ∧ TIn W A m B k C n o l f ∧ (m ≤ maxLen ∧ k ≤ maxLen ∧ n ≤ maxLen) ∧ (m ≤ p ∧ k ≤ q ∧ n ≤ r) := by
  obtain ⟨cs, rfl, hsz⟩ := okWide_struct Try.underlying28 hv
  obtain ⟨c0, c1, c2, c3, c4, rfl⟩ := array5 (hsz.trans (by kernel_rfl))
  obtain ⟨fuel, hf⟩ := h
  obtain ⟨xs, n, _, _, _, hlen, hff⟩ := DataW.trod_struct Try.underlying28 (by simpa [Value.cells] using hf)
  match xs, hlen with
  | [y0, y1, y2, y3, y4], _ =>
    have k1 : Try.prog.cellsOf 3 = 1 := by kernel_rfl
    have k2 : Try.prog.cellsOf 25 = 1 := by kernel_rfl
    have k3 : Try.prog.cellsOf 26 = 1 := by kernel_rfl
    have g0 := hff 0 _ rfl
    have g1 := hff 1 _ rfl
    have g2 := hff 2 _ rfl
    have g3 := hff 3 _ rfl
    have g4 := hff 4 _ rfl
    simp [k1, k2, k3] at g0 g1 g2 g3 g4
    obtain ⟨sg, e0, _, w0⟩ := DataW.trod_int Try.underlying3 g0
    obtain ⟨st, e1, _, w1⟩ := DataW.trod_int Try.underlying3 g1
    obtain ⟨A, m, p, o, rfl, hm, hp, sa⟩ := trod_ints g2
    obtain ⟨B, k, q, l, rfl, hk, hq, sb⟩ := trod_ints g3
    obtain ⟨C, n, r, f, rfl, hn, hr, sc⟩ := trod_u64s g4
    simp at e0 e1
    subst e0 e1
    exact ⟨sg, st, A, m, p, B, k, q, C, n, r, o, l, f, rfl, ⟨sa, sb, sc⟩, ⟨hm, hk, hn⟩, ⟨hp, hq, hr⟩⟩
end
end Go.Proofs.Ytpgbbbgblgkokaa
