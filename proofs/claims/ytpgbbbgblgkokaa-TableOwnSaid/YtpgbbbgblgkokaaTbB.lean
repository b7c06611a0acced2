/- Contracts of table's rightOrder, rightLens and Right, Used, Len and Room, and of the document's own In, Right, Used and Len: what they tell of any table; no memory that was there is changed. -/
import Derived.Test.YtpgbbbgblgkokaaTbA
namespace Go.Proofs.Ytpgbbbgblgkokaa
open Go.RowKit Go.Lib
set_option linter.unusedVariables false

def orderB (o : List Int) (sg : Int) : Bool := decide (1 ≤ o.length ∧ (∀ x ∈ o, 0 ≤ x ∧ x < sg) ∧ o.Nodup)
def lensB (l : List Int) (st : Int) : Bool := decide (∀ x ∈ l, 0 ≤ x ∧ x ≤ st)
theorem okT_parts (t : Tab) : okT t = (sizeB t.sg t.st && (orderB t.o t.sg && (lensB t.l t.st && (decide (t.l.length = t.o.length) && decide (t.f.length = t.o.length))))) := by
  rw [Bool.eq_iff_iff, okT_iff]
  unfold okP sizeB orderB lensB
  simp only [Bool.and_eq_true, decide_eq_true_iff]
  constructor
  · rintro ⟨a, b, c, d, e, f, g, h⟩; exact ⟨⟨a, b⟩, ⟨c, d, e⟩, f, g, h⟩
  · rintro ⟨⟨a, b⟩, ⟨c, d, e⟩, f, g, h⟩; exact ⟨a, b, c, d, e, f, g, h⟩

/-- The first i segments may be. -/
structure Good (o : List Int) (sg : Int) (i : Nat) : Prop where
  po : ∀ x ∈ o.take i, 0 ≤ x ∧ x < sg
  pd : (o.take i).Nodup
theorem Good.next {o : List Int} {sg : Int} {i : Nat} (h : Good o sg i) (ho : i < o.length) (h1 : 0 ≤ nth o i ∧ nth o i < sg) (h3 : nth o i ∉ o.take i) : Good o sg (i + 1) := by
  refine ⟨?_, ?_⟩
  · intro x hx
    rw [take_nth ho, List.mem_append, List.mem_singleton] at hx
    rcases hx with hx | rfl
    · exact h.po x hx
    · exact h1
  · rw [take_nth ho, List.nodup_append]
    exact ⟨h.pd, by simp, fun a ha b hb e => by rw [List.mem_singleton] at hb; subst hb; subst e; exact h3 ha⟩
theorem not_nodup {o : List Int} {i : Nat} (ho : i < o.length) (h : nth o i ∈ o.take i) : ¬ o.Nodup := by
  intro hd
  have h2 : (o.take (i + 1)).Nodup := hd.sublist (List.take_sublist _ _)
  rw [take_nth ho, List.nodup_append] at h2
  exact h2.2.2 _ h _ (by simp) rfl
theorem Sl.head {κ : IntKind} {W : World} {b off m i : Nat} {l : List Int} (h : Sl κ W (some ⟨b, off, none⟩) m l) (hi : i ≤ m) : Sl κ W (some ⟨b, off, none⟩) i (l.take i) := by
  refine ⟨by rw [List.length_take, ← h.len]; omega, fun hn => ?_⟩
  obtain ⟨b', o', e, hlt, hc⟩ := h.cells (by omega)
  injection e with e
  injection e with e1 e2
  subst e1 e2
  exact ⟨_, _, rfl, hlt, fun j hj => by rw [hc j (by omega)]; simp only [nth_take hj]⟩

set_option maxHeartbeats 1000000 in
theorem order_main (b off m p : Nat) (o : List Int) (sg : Int) (w : World) (h : Sl .i64 w (some ⟨b, off, none⟩) m o) (h0 : 0 < m) (hm : m ≤ maxLen) (hp : m ≤ p) :
    Calls Try.prog 35 #[.slice (some ⟨b, off, none⟩) m p, .int .i64 sg] w fun e w' => e = .returned (.bool (orderB o sg)) ∧ w = w' := by
  have HM := Lib.hid hm
  unfold maxLen at hm
  have HL := Lib.hid h.len
  have HS := Lib.hid h
  obtain ⟨b', off', e, hb, hc⟩ := h.cells h0
  injection e with e
  injection e with e1 e2
  subst e1 e2
  have HC := Lib.hid hc
  clear hc h
  go_enter Try.func35, Try.ntmps35
  go_wp2_with fail
  go_loop [9] (fun s9 => ∃ i : Nat, i ≤ m ∧ s9 = .int .i64 i ∧ Hid (Good o sg i)) (fun s9 => m - (intOf s9).toNat)
  case atStart => exact ⟨0, by omega, rfl, Lib.hid ⟨by simp, by simp⟩⟩
  case round =>
    obtain ⟨i, hi, rfl, HG⟩ := hrel
    by_cases hlt : i < m
    · have hlti : (i : Int) < (m : Int) := by omega
      have hip : (i : Int) ≤ (p : Int) := by omega
      have hol : i < o.length := by have := HL.out; omega
      have c1 := HC.out i hlt
      obtain ⟨y, Y⟩ : ∃ y, Hid (nth o i = y) := ⟨_, rfl⟩
      simp only [Y.out] at c1
      have no : ¬ (1 ≤ o.length ∧ (∀ x ∈ o, 0 ≤ x ∧ x < sg) ∧ o.Nodup) → orderB o sg = false := fun h => by unfold orderB; rw [decide_eq_false_iff_not]; exact h
      have B0 : Hid ((y < 0 ∨ sg ≤ y) → orderB o sg = false) := Lib.hid fun hx => no fun hs => by
        have := hs.2.1 _ (nth_mem hol)
        rw [Y.out] at this
        omega
      have B1 : Hid (y ∈ o.take i → orderB o sg = false) := Lib.hid fun hx => no fun hs => not_nodup hol (by rw [Y.out]; exact hx) hs.2.2
      clear no
      by_cases hy0 : y < 0
      · go_wp2_with fail
        go_ret
        exact ⟨ret_bool (B0.out (.inl hy0)).symm, rfl⟩
      by_cases hy1 : sg ≤ y
      · go_wp2_with fail
        go_ret
        exact ⟨ret_bool (B0.out (.inr hy1)).symm, rfl⟩
      obtain ⟨c, HCn⟩ : ∃ c, Hid (decide (y ∈ o.take i) = c) := ⟨_, Lib.hid rfl⟩
      have K := Lib.hid (has_is (some ⟨b, off, none⟩) i p (o.take i) y c w (HS.out.head hi) (Nat.le_trans hi HM.out) HCn.out)
      cases c with
      | true =>
        go_wp2_with fail
        refine K.out.mono ?_
        rintro e w' ⟨rfl, rfl⟩
        go_wp2_with fail
        go_ret
        exact ⟨ret_bool (B1.out (of_decide_eq_true HCn.out)).symm, rfl⟩
      | false =>
        have HG2 : Hid (Good o sg (i + 1)) := Lib.hid (HG.out.next hol (by rw [Y.out]; omega) (by rw [Y.out]; exact of_decide_eq_false HCn.out))
        go_wp2_with fail
        refine K.out.mono ?_
        rintro e w' ⟨rfl, rfl⟩
        go_wp2_with fail
        go_round
        case rel => exact ⟨i + 1, by omega, by go_num, HG2⟩
        case measure => simp [intOf]; omega
    · obtain rfl : i = m := by omega
      have hlti : ¬ (i : Int) < (i : Int) := by omega
      have HD : Hid (orderB o sg = true) := Lib.hid (by
        have g := HG.out
        have hl := HL.out
        unfold orderB
        rw [decide_eq_true_iff]
        have e : o.take i = o := List.take_of_length_le (by omega)
        exact ⟨by omega, by rw [← e]; exact g.po, by rw [← e]; exact g.pd⟩)
      have hpos : 0 < (i : Int) := by omega
      go_wp2_with fail
      go_ret
      exact ⟨ret_bool HD.out.symm, rfl⟩

theorem order_is (A : Option Addr) (m p : Nat) (o : List Int) (sg : Int) (b : Bool) (w : World) (h : Sl .i64 w A m o) (hm : m ≤ maxLen) (hp : m ≤ p) (hb : orderB o sg = b) :
    Calls Try.prog 35 #[.slice A m p, .int .i64 sg] w fun e w' => e = .returned (.bool b) ∧ w = w' := by
  subst hb
  by_cases hz : m = 0
  · subst hz
    have h1 := List.length_eq_zero_iff.1 h.len.symm
    subst h1
    have e : orderB [] sg = false := by simp [orderB]
    rw [e]
    go_enter Try.func35, Try.ntmps35
    go_wp2_with fail
    refine wp_loop_rounds 1 ?_
    rw [rounds_succ]
    go_wp2_with fail
    go_ret
    exact ⟨rfl, rfl⟩
  obtain ⟨b, off, rfl, hb, hc⟩ := h.cells (by omega)
  exact order_main b off m p o sg w h (by omega) hm hp

set_option maxHeartbeats 1000000 in
theorem lens_is (A : Option Addr) (m p : Nat) (l : List Int) (st : Int) (b : Bool) (w : World) (h : Sl .i64 w A m l) (hm : m ≤ maxLen) (hb : lensB l st = b) :
    Calls Try.prog 36 #[.slice A m p, .int .i64 st] w fun e w' => e = .returned (.bool b) ∧ w = w' := by
  subst hb
  unfold maxLen at hm
  have HL := Lib.hid h.len
  by_cases hz : m = 0
  · subst hz
    have h1 := List.length_eq_zero_iff.1 h.len.symm
    subst h1
    have e : lensB [] st = true := by simp [lensB]
    rw [e]
    go_enter Try.func36, Try.ntmps36
    go_wp2_with fail
    refine wp_loop_rounds 1 ?_
    rw [rounds_succ]
    go_wp2_with fail
    go_ret
    exact ⟨rfl, rfl⟩
  obtain ⟨b, off, rfl, hb, hc⟩ := h.cells (by omega)
  have HC := Lib.hid hc
  clear hc h
  go_enter Try.func36, Try.ntmps36
  go_wp2_with fail
  go_loop [9] (fun s9 => ∃ i : Nat, i ≤ m ∧ s9 = .int .i64 i ∧ Hid (∀ x ∈ l.take i, 0 ≤ x ∧ x ≤ st)) (fun s9 => m - (intOf s9).toNat)
  case atStart => exact ⟨0, by omega, rfl, Lib.hid (by simp)⟩
  case round =>
    obtain ⟨i, hi, rfl, HG⟩ := hrel
    by_cases hlt : i < m
    · have hlti : (i : Int) < (m : Int) := by omega
      have hil : i < l.length := by have := HL.out; omega
      have c1 := HC.out i hlt
      obtain ⟨y, Y⟩ : ∃ y, Hid (nth l i = y) := ⟨_, rfl⟩
      simp only [Y.out] at c1
      have B0 : Hid ((y < 0 ∨ st < y) → lensB l st = false) := Lib.hid fun hx => by
        unfold lensB
        rw [decide_eq_false_iff_not]
        intro hs
        have := hs _ (nth_mem hil)
        rw [Y.out] at this
        omega
      by_cases hy0 : y < 0
      · go_wp2_with fail
        go_ret
        exact ⟨ret_bool (B0.out (.inl hy0)).symm, rfl⟩
      by_cases hy1 : st < y
      · go_wp2_with fail
        go_ret
        exact ⟨ret_bool (B0.out (.inr hy1)).symm, rfl⟩
      have HG2 : Hid (∀ x ∈ l.take (i + 1), 0 ≤ x ∧ x ≤ st) := Lib.hid (by
        intro x hx
        rw [take_nth hil, List.mem_append, List.mem_singleton, Y.out] at hx
        rcases hx with hx | rfl
        · exact HG.out x hx
        · omega)
      go_wp2_with fail
      go_round
      case rel => exact ⟨i + 1, by omega, by go_num, HG2⟩
      case measure => simp [intOf]; omega
    · obtain rfl : i = m := by omega
      have hlti : ¬ (i : Int) < (i : Int) := by omega
      have HD : Hid (lensB l st = true) := Lib.hid (by
        have g := HG.out
        unfold lensB
        rw [decide_eq_true_iff]
        rw [List.take_of_length_le (by have := HL.out; omega)] at g
        exact g)
      go_wp2_with fail
      go_ret
      exact ⟨ret_bool HD.out.symm, rfl⟩

set_option maxHeartbeats 2000000 in
/-- Right: whether a table may be. -/
theorem right_is (sg st : Int) (A : Option Addr) (m p : Nat) (B : Option Addr) (k q : Nat) (C : Option Addr) (n r : Nat) (o l f : List Int) (b : Bool) (w : World) (h : TIn w A m B k C n o l f) (hm : m ≤ maxLen) (hk : k ≤ maxLen) (hn : n ≤ maxLen) (hp : m ≤ p) (hb : okT ⟨sg, st, o, l, f⟩ = b) :
    Calls Try.prog 13 #[.agg #[.int .i64 sg, .int .i64 st, .slice A m p, .slice B k q, .slice C n r]] w fun e w' => e = .returned (.bool b) ∧ Below w.heap.size w w' := by
  subst hb
  rw [okT_parts]
  simp only
  have HB := Lib.hid (below1 w (.cells #[.int .i64 sg, .int .i64 st, .slice A m p, .slice B k q, .slice C n r] 28))
  have h1 := h.later (below1 w (.cells #[.int .i64 sg, .int .i64 st, .slice A m p, .slice B k q, .slice C n r] 28))
  rw [← h.a.len, ← h.b.len, ← h.c.len]
  obtain ⟨b1, H1⟩ : ∃ b1, Hid (sizeB sg st = b1) := ⟨_, Lib.hid rfl⟩
  obtain ⟨b2, H2⟩ : ∃ b2, Hid (orderB o sg = b2) := ⟨_, Lib.hid rfl⟩
  obtain ⟨b3, H3⟩ : ∃ b3, Hid (lensB l st = b3) := ⟨_, Lib.hid rfl⟩
  rw [H1.out, H2.out, H3.out]
  have K2 := Lib.hid (order_is A m p o sg b2 _ h1.a hm hp H2.out)
  have K3 := Lib.hid (lens_is B k q l st b3 _ h1.b hk H3.out)
  clear h h1
  unfold maxLen at hm hk hn
  cases b1 with
  | false =>
    go_enter Try.func13, Try.ntmps13
    go_wp2_with fail
    refine (size_is sg st _ _ H1.out).mono ?_
    rintro e w' ⟨rfl, rfl⟩
    go_wp2_with fail
    go_ret
    exact ⟨rfl, HB.out⟩
  | true =>
  cases b2 with
  | false =>
    go_enter Try.func13, Try.ntmps13
    go_wp2_with fail
    refine (size_is sg st _ _ H1.out).mono ?_
    rintro e w' ⟨rfl, rfl⟩
    go_wp2_with fail
    refine K2.out.mono ?_
    rintro e w' ⟨rfl, rfl⟩
    go_wp2_with fail
    go_ret
    exact ⟨rfl, HB.out⟩
  | true =>
  cases b3 with
  | false =>
    go_enter Try.func13, Try.ntmps13
    go_wp2_with fail
    refine (size_is sg st _ _ H1.out).mono ?_
    rintro e w' ⟨rfl, rfl⟩
    go_wp2_with fail
    refine K2.out.mono ?_
    rintro e w' ⟨rfl, rfl⟩
    go_wp2_with fail
    refine K3.out.mono ?_
    rintro e w' ⟨rfl, rfl⟩
    go_wp2_with fail
    go_ret
    exact ⟨rfl, HB.out⟩
  | true =>
  have E : Hid ((true && (true && (true && (decide (k = m) && decide (n = m))))) = (decide (k = m) && decide (n = m))) := Lib.hid (by simp)
  rw [E.out]
  clear E
  by_cases e1 : k = m
  case neg =>
    have q1 : ((k : Int) == (m : Int)) = false := by simp; omega
    have HD : Hid ((decide (k = m) && decide (n = m)) = false) := Lib.hid (by simp [e1])
    rw [HD.out]
    clear e1
    go_enter Try.func13, Try.ntmps13
    go_wp2_with fail
    refine (size_is sg st _ _ H1.out).mono ?_
    rintro e w' ⟨rfl, rfl⟩
    go_wp2_with fail
    refine K2.out.mono ?_
    rintro e w' ⟨rfl, rfl⟩
    go_wp2_with fail
    refine K3.out.mono ?_
    rintro e w' ⟨rfl, rfl⟩
    go_wp2_with fail
    go_ret
    exact ⟨rfl, HB.out⟩
  subst e1
  obtain ⟨c, HCc⟩ : ∃ c, Hid (((n : Int) == (k : Int)) = c) := ⟨_, Lib.hid rfl⟩
  have HD : Hid ((decide (k = k) && decide (n = k)) = c) := Lib.hid (by rw [← HCc.out, decide_eq_true rfl, Bool.true_and, Bool.eq_iff_iff, decide_eq_true_iff, beq_iff_eq]; omega)
  rw [HD.out]
  have q0 : ((k : Int) == (k : Int)) = true := by simp
  have q1 := HCc.out
  go_enter Try.func13, Try.ntmps13
  go_wp2_with fail
  refine (size_is sg st _ _ H1.out).mono ?_
  rintro e w' ⟨rfl, rfl⟩
  go_wp2_with fail
  refine K2.out.mono ?_
  rintro e w' ⟨rfl, rfl⟩
  go_wp2_with fail
  refine K3.out.mono ?_
  rintro e w' ⟨rfl, rfl⟩
  go_wp2_with fail
  go_ret
  exact ⟨rfl, HB.out⟩
end Go.Proofs.Ytpgbbbgblgkokaa
