/- The contract of record.Right, for every record: whether it may be, and that no memory that was there is changed. -/
import Derived.Test.YtgpcfdkblkkpeaaRecM
import Derived.Deep.QuietTactic
import Derived.BigQuiet
import Derived.Deep.RegionWith
namespace Go.Proofs.Ytgpcfdkblkkpeaa
open Go.RowKit Go.Lib Wd Cr Ck
set_option linter.unusedVariables false

theorem nil_iff (s : ByteArray) : s.toList = [] ↔ s.data.toList = [] := by rw [toList_data]

theorem right_zero (l e k v d : Int) (i a : ByteArray) (w : World) (hl : l = 0) :
    Calls Try.prog 17 #[.agg #[.int .u64 l, .int .u32 e, .int .i64 k, .int .u64 v, .int .u64 d, .string i, .string a]] w fun e' w' => e' = .returned (.bool false) ∧ Below w.heap.size w w' := by
  subst hl
  go_enter Try.func17, Try.ntmps17
  go_wp2_with fail
  go_ret
  exact ⟨rfl, (Below.refl _ _).alloc (Nat.le_refl _) _⟩

theorem right_live (l e k v d : Int) (i a : ByteArray) (w : World) (hl : (l == 0) = false) (hs : i.size ≤ maxLen) (ha : a.size ≤ maxLen) (hk : k = 1) :
    Calls Try.prog 17 #[.agg #[.int .u64 l, .int .u32 e, .int .i64 k, .int .u64 v, .int .u64 d, .string i, .string a]] w fun e' w' => e' = .returned (.bool (idB i.data.toList && vaB a.size)) ∧ Below w.heap.size w w' := by
  subst hk
  have C := Lib.hid (fun w => id_any i w hs)
  have D := Lib.hid (fun w => value_any a w ha)
  cases hi : idB i.data.toList
  · rw [hi] at C
    go_enter Try.func17, Try.ntmps17
    go_wp2_with fail
    refine (C.out _).mono ?_
    rintro e' w' ⟨rfl, rfl⟩
    go_wp2_with fail
    go_ret
    exact ⟨rfl, (Below.refl _ _).alloc (Nat.le_refl _) _⟩
  · rw [hi] at C
    generalize vaB a.size = B at *
    go_enter Try.func17, Try.ntmps17
    go_wp2_with fail
    refine (C.out _).mono ?_
    rintro e' w' ⟨rfl, rfl⟩
    go_wp2_with fail
    refine (D.out _).mono ?_
    rintro e' w' ⟨rfl, rfl⟩
    go_wp2_with fail
    go_ret
    exact ⟨ret_bool (by simp), (Below.refl _ _).alloc (Nat.le_refl _) _⟩

set_option maxHeartbeats 1000000 in
theorem right_tomb (l e k v d : Int) (i a : ByteArray) (w : World) (hl : (l == 0) = false) (hs : i.size ≤ maxLen) (hk : k = 2) :
    Calls Try.prog 17 #[.agg #[.int .u64 l, .int .u32 e, .int .i64 k, .int .u64 v, .int .u64 d, .string i, .string a]] w fun e' w' => e' = .returned (.bool (idB i.data.toList && decide (a.data.toList = [] ∧ d = 0))) ∧ Below w.heap.size w w' := by
  subst hk
  have C := Lib.hid (fun w => id_any i w hs)
  cases hi : idB i.data.toList
  · rw [hi] at C
    go_enter Try.func17, Try.ntmps17
    go_wp2_with fail
    refine (C.out _).mono ?_
    rintro e' w' ⟨rfl, rfl⟩
    go_wp2_with fail
    go_ret
    exact ⟨rfl, (Below.refl _ _).alloc (Nat.le_refl _) _⟩
  · rw [hi] at C
    by_cases hd : d = 0
    · by_cases ha : a.toList = []
      · have Q := Lib.hid ((nil_iff a).1 ha)
        go_enter Try.func17, Try.ntmps17
        go_wp2_with fail
        refine (C.out _).mono ?_
        rintro e' w' ⟨rfl, rfl⟩
        go_wp2_with fail
        go_ret
        exact ⟨ret_bool (by rw [Bool.true_and, decide_eq_true ⟨Q.out, hd⟩]), (Below.refl _ _).alloc (Nat.le_refl _) _⟩
      · have Q := Lib.hid (fun h => ha ((nil_iff a).2 h))
        go_enter Try.func17, Try.ntmps17
        go_wp2_with fail
        refine (C.out _).mono ?_
        rintro e' w' ⟨rfl, rfl⟩
        go_wp2_with fail
        go_ret
        exact ⟨ret_bool (by rw [Bool.true_and, decide_eq_false (fun h => Q.out h.1)]), (Below.refl _ _).alloc (Nat.le_refl _) _⟩
    · go_enter Try.func17, Try.ntmps17
      go_wp2_with fail
      refine (C.out _).mono ?_
      rintro e' w' ⟨rfl, rfl⟩
      go_wp2_with fail
      go_ret
      exact ⟨ret_bool (by rw [Bool.true_and, decide_eq_false (fun h => hd h.2)]), (Below.refl _ _).alloc (Nat.le_refl _) _⟩

set_option maxHeartbeats 1000000 in
theorem right_foot (l e k v d : Int) (i a : ByteArray) (w : World) (hl : (l == 0) = false) (hk : k = 3) :
    Calls Try.prog 17 #[.agg #[.int .u64 l, .int .u32 e, .int .i64 k, .int .u64 v, .int .u64 d, .string i, .string a]] w fun e' w' => e' = .returned (.bool (decide (d < 16) && decide (v = 0 ∧ i.data.toList = [] ∧ a.data.toList = []))) ∧ Below w.heap.size w w' := by
  subst hk
  by_cases hd : d < 16
  · by_cases hv : v = 0
    · by_cases hi : i.toList = []
      · by_cases ha : a.toList = []
        · have Q := Lib.hid ((nil_iff a).1 ha)
          have Q' := Lib.hid ((nil_iff i).1 hi)
          go_enter Try.func17, Try.ntmps17
          go_wp2_with fail
          go_ret
          exact ⟨ret_bool (by rw [decide_eq_true hd, Bool.true_and, decide_eq_true ⟨hv, Q'.out, Q.out⟩]), (Below.refl _ _).alloc (Nat.le_refl _) _⟩
        · have Q := Lib.hid (fun h => ha ((nil_iff a).2 h))
          go_enter Try.func17, Try.ntmps17
          go_wp2_with fail
          go_ret
          exact ⟨ret_bool (by rw [decide_eq_true hd, Bool.true_and, decide_eq_false (fun h => Q.out h.2.2)]), (Below.refl _ _).alloc (Nat.le_refl _) _⟩
      · have Q := Lib.hid (fun h => hi ((nil_iff i).2 h))
        go_enter Try.func17, Try.ntmps17
        go_wp2_with fail
        go_ret
        exact ⟨ret_bool (by rw [decide_eq_true hd, Bool.true_and, decide_eq_false (fun h => Q.out h.2.1)]), (Below.refl _ _).alloc (Nat.le_refl _) _⟩
    · go_enter Try.func17, Try.ntmps17
      go_wp2_with fail
      go_ret
      exact ⟨ret_bool (by rw [decide_eq_true hd, Bool.true_and, decide_eq_false (fun h => hv h.1)]), (Below.refl _ _).alloc (Nat.le_refl _) _⟩
  · go_enter Try.func17, Try.ntmps17
    go_wp2_with fail
    go_ret
    exact ⟨ret_bool (by rw [decide_eq_false (by omega : ¬ d < 16), Bool.false_and]), (Below.refl _ _).alloc (Nat.le_refl _) _⟩

theorem right_none (l e k v d : Int) (i a : ByteArray) (w : World) (hl : (l == 0) = false) (h1 : (k == 1) = false) (h2 : (k == 2) = false) (h3 : (k == 3) = false) :
    Calls Try.prog 17 #[.agg #[.int .u64 l, .int .u32 e, .int .i64 k, .int .u64 v, .int .u64 d, .string i, .string a]] w fun e' w' => e' = .returned (.bool false) ∧ Below w.heap.size w w' := by
  go_enter Try.func17, Try.ntmps17
  go_wp2_with fail
  go_ret
  exact ⟨rfl, (Below.refl _ _).alloc (Nat.le_refl _) _⟩

/-- record.Right. -/
theorem right_any (l e k v d : Int) (i a : ByteArray) (B : Bool) (w : World) (hs : i.size ≤ maxLen) (ha : a.size ≤ maxLen) (hB : okR ⟨l, e, k, v, d, i.data.toList, a.data.toList⟩ = B) :
    Calls Try.prog 17 #[.agg #[.int .u64 l, .int .u32 e, .int .i64 k, .int .u64 v, .int .u64 d, .string i, .string a]] w fun e' w' => e' = .returned (.bool B) ∧ Below w.heap.size w w' := by
  subst hB
  have hsz := Go.Lib.size_eq a
  by_cases hl : l = 0
  · have e0 : okR ⟨l, e, k, v, d, i.data.toList, a.data.toList⟩ = false := by
      rw [Bool.eq_false_iff]; intro h; exact ((okR_iff _).1 h).1 hl
    rw [e0]; exact right_zero l e k v d i a w hl
  have hl' : (l == 0) = false := by rw [beq_eq_false_iff_ne]; exact hl
  by_cases h1 : k = 1
  · have e0 : okR ⟨l, e, k, v, d, i.data.toList, a.data.toList⟩ = (idB i.data.toList && vaB a.size) := by
      rw [Bool.eq_iff_iff, okR_iff, Bool.and_eq_true, vaB, decide_eq_true_iff, hsz]
      constructor
      · rintro ⟨_, h | h | h⟩
        · exact h.2
        · have := h.1; simp only at this; omega
        · have := h.1; simp only at this; omega
      · intro h; exact ⟨hl, Or.inl ⟨h1, h⟩⟩
    rw [e0]; exact right_live l e k v d i a w hl' hs ha h1
  by_cases h2 : k = 2
  · have e0 : okR ⟨l, e, k, v, d, i.data.toList, a.data.toList⟩ = (idB i.data.toList && decide (a.data.toList = [] ∧ d = 0)) := by
      rw [Bool.eq_iff_iff, okR_iff, Bool.and_eq_true, decide_eq_true_iff]
      constructor
      · rintro ⟨_, h | h | h⟩
        · have := h.1; simp only at this; omega
        · exact h.2
        · have := h.1; simp only at this; omega
      · intro h; exact ⟨hl, Or.inr (Or.inl ⟨h2, h⟩)⟩
    rw [e0]; exact right_tomb l e k v d i a w hl' hs h2
  by_cases h3 : k = 3
  · have e0 : okR ⟨l, e, k, v, d, i.data.toList, a.data.toList⟩ = (decide (d < 16) && decide (v = 0 ∧ i.data.toList = [] ∧ a.data.toList = [])) := by
      rw [Bool.eq_iff_iff, okR_iff, Bool.and_eq_true, decide_eq_true_iff, decide_eq_true_iff]
      constructor
      · rintro ⟨_, h | h | h⟩
        · have := h.1; simp only at this; omega
        · have := h.1; simp only at this; omega
        · exact ⟨h.2.2.2.2, h.2.2.2.1, h.2.1, h.2.2.1⟩
      · intro h; exact ⟨hl, Or.inr (Or.inr ⟨h3, h.2.2.1, h.2.2.2, h.2.1, h.1⟩)⟩
    rw [e0]; exact right_foot l e k v d i a w hl' h3
  · have e0 : okR ⟨l, e, k, v, d, i.data.toList, a.data.toList⟩ = false := by
      rw [Bool.eq_false_iff]; intro h
      rcases ((okR_iff _).1 h).2 with h | h | h
      · exact h1 h.1
      · exact h2 h.1
      · exact h3 h.1
    rw [e0]
    exact right_none l e k v d i a w hl' (by rw [beq_eq_false_iff_ne]; exact h1) (by rw [beq_eq_false_iff_ne]; exact h2) (by rw [beq_eq_false_iff_ne]; exact h3)
end Go.Proofs.Ytgpcfdkblkkpeaa
