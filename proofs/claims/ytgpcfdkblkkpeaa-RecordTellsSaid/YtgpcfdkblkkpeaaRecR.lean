/- Contracts of the document's own Right (lodgerref06) and of the statements' Ref, for every record: whether it may be; the same record for the document; no memory that was there is changed. -/
import Derived.Test.YtgpcfdkblkkpeaaRecT
import Derived.Test.YtgpcfdkblkkpeaaFree
namespace Go.Proofs.Ytgpcfdkblkkpeaa
open Go.RowKit Go.Lib Wd Cr Ck
set_option linter.unusedVariables false

theorem nilB_yes {s : ByteArray} (h : s.data.toList = []) : (s.toList == []) = true := by rw [beq_iff_eq, toList_data]; exact h
theorem nilB_no {s : ByteArray} (h : ¬ s.data.toList = []) : (s.toList == []) = false := by rw [beq_eq_false_iff_ne, toList_data]; exact h

namespace R6
theorem right_zero (l e k v d : Int) (i a : ByteArray) (w : World) (hl : l = 0) :
    Calls Try.prog 18 #[.agg #[.int .u64 l, .int .u32 e, .int .i64 k, .int .u64 v, .int .u64 d, .string i, .string a]] w fun e' w' => e' = .returned (.bool false) ∧ Below w.heap.size w w' := by
  subst hl
  go_enter Try.func18, Try.ntmps18
  go_wp2_with fail
  go_ret
  exact ⟨rfl, (Below.refl _ _).alloc (Nat.le_refl _) _⟩
theorem right_live (l e k v d : Int) (i a : ByteArray) (w : World) (hl : (l == 0) = false) (hs : i.size ≤ maxLen) (ha : a.size ≤ maxLen) (hk : k = 1) :
    Calls Try.prog 18 #[.agg #[.int .u64 l, .int .u32 e, .int .i64 k, .int .u64 v, .int .u64 d, .string i, .string a]] w fun e' w' => e' = .returned (.bool (idB i.data.toList && vaB a.size)) ∧ Below w.heap.size w w' := by
  subst hk
  have C := Lib.hid (fun w => R4.id_any i w hs)
  have D := Lib.hid (fun w => R4.value_any a w ha)
  cases hi : idB i.data.toList
  · rw [hi] at C
    go_enter Try.func18, Try.ntmps18
    go_wp2_with fail
    refine (C.out _).mono ?_
    rintro e' w' ⟨rfl, rfl⟩
    go_wp2_with fail
    go_ret
    exact ⟨rfl, (Below.refl _ _).alloc (Nat.le_refl _) _⟩
  · rw [hi] at C
    generalize vaB a.size = B at *
    go_enter Try.func18, Try.ntmps18
    go_wp2_with fail
    refine (C.out _).mono ?_
    rintro e' w' ⟨rfl, rfl⟩
    go_wp2_with fail
    refine (D.out _).mono ?_
    rintro e' w' ⟨rfl, rfl⟩
    go_wp2_with fail
    go_ret
    exact ⟨ret_bool (by simp), (Below.refl _ _).alloc (Nat.le_refl _) _⟩

set_option maxHeartbeats 1000000 in
theorem right_tomb (l e k v d : Int) (i a : ByteArray) (w : World) (hl : (l == 0) = false) (hs : i.size ≤ maxLen) (hk : k = 2) :
    Calls Try.prog 18 #[.agg #[.int .u64 l, .int .u32 e, .int .i64 k, .int .u64 v, .int .u64 d, .string i, .string a]] w fun e' w' => e' = .returned (.bool (idB i.data.toList && decide (a.data.toList = [] ∧ d = 0))) ∧ Below w.heap.size w w' := by
  subst hk
  have C := Lib.hid (fun w => R4.id_any i w hs)
  obtain ⟨B, HB⟩ : ∃ B, Hid ((idB i.data.toList && decide (a.data.toList = [] ∧ d = 0)) = B) := ⟨_, rfl⟩
  rw [HB.out]
  cases hi : idB i.data.toList
  · rw [hi] at C
    obtain rfl : false = B := by rw [← HB.out, hi]; rfl
    go_enter Try.func18, Try.ntmps18
    go_wp2_with fail
    refine (C.out _).mono ?_
    rintro e' w' ⟨rfl, rfl⟩
    go_wp2_with fail
    go_ret
    exact ⟨rfl, (Below.refl _ _).alloc (Nat.le_refl _) _⟩
  · rw [hi] at C
    by_cases ha : a.data.toList = []
    · have ha' := nilB_yes ha
      obtain ⟨D, hD⟩ : ∃ D, (d == 0) = D := ⟨_, rfl⟩
      obtain rfl : D = B := by
        rw [← HB.out, hi, Bool.true_and, ← hD, Bool.eq_iff_iff, beq_iff_eq, decide_eq_true_iff]
        exact ⟨fun h => ⟨ha, h⟩, fun h => h.2⟩
      clear HB hi ha
      go_enter Try.func18, Try.ntmps18
      go_wp2_with fail
      refine (C.out _).mono ?_
      rintro e' w' ⟨rfl, rfl⟩
      go_wp2_with fail
      go_ret
      exact ⟨rfl, (Below.refl _ _).alloc (Nat.le_refl _) _⟩
    · have ha' := nilB_no ha
      obtain rfl : false = B := by
        rw [← HB.out, hi, Bool.true_and, decide_eq_false (fun h => ha h.1)]
      clear HB hi ha
      go_enter Try.func18, Try.ntmps18
      go_wp2_with fail
      refine (C.out _).mono ?_
      rintro e' w' ⟨rfl, rfl⟩
      go_wp2_with fail
      go_ret
      exact ⟨rfl, (Below.refl _ _).alloc (Nat.le_refl _) _⟩

set_option maxHeartbeats 1000000 in
theorem right_foot (l e k v d : Int) (i a : ByteArray) (w : World) (hl : (l == 0) = false) (hk : k = 3) :
    Calls Try.prog 18 #[.agg #[.int .u64 l, .int .u32 e, .int .i64 k, .int .u64 v, .int .u64 d, .string i, .string a]] w fun e' w' => e' = .returned (.bool (decide (d < 16) && decide (v = 0 ∧ i.data.toList = [] ∧ a.data.toList = []))) ∧ Below w.heap.size w w' := by
  subst hk
  obtain ⟨B, HB⟩ : ∃ B, Hid ((decide (d < 16) && decide (v = 0 ∧ i.data.toList = [] ∧ a.data.toList = [])) = B) := ⟨_, rfl⟩
  rw [HB.out]
  by_cases hi : i.data.toList = []
  · have hi' := nilB_yes hi
    by_cases ha : a.data.toList = []
    · have ha' := nilB_yes ha
      by_cases hv : v = 0
      · have hv' : (v == 0) = true := by rw [beq_iff_eq]; exact hv
        by_cases hd : d < 16
        · obtain rfl : true = B := by rw [← HB.out, decide_eq_true hd, Bool.true_and, decide_eq_true ⟨hv, hi, ha⟩]
          clear HB hi ha
          go_enter Try.func18, Try.ntmps18
          go_wp2_with fail
          go_ret
          exact ⟨rfl, (Below.refl _ _).alloc (Nat.le_refl _) _⟩
        · obtain rfl : false = B := by rw [← HB.out, decide_eq_false hd, Bool.false_and]
          clear HB hi ha
          go_enter Try.func18, Try.ntmps18
          go_wp2_with fail
          go_ret
          exact ⟨rfl, (Below.refl _ _).alloc (Nat.le_refl _) _⟩
      · have hv' : (v == 0) = false := by rw [beq_eq_false_iff_ne]; exact hv
        obtain rfl : false = B := by (have hq : ¬ (v = 0 ∧ i.data.toList = [] ∧ a.data.toList = []) := fun h => hv h.1); (rw [← HB.out, decide_eq_false hq, Bool.and_false])
        clear HB hi ha hv
        go_enter Try.func18, Try.ntmps18
        go_wp2_with fail
        go_ret
        exact ⟨rfl, (Below.refl _ _).alloc (Nat.le_refl _) _⟩
    · have ha' := nilB_no ha
      obtain rfl : false = B := by (have hq : ¬ (v = 0 ∧ i.data.toList = [] ∧ a.data.toList = []) := fun h => ha h.2.2); (rw [← HB.out, decide_eq_false hq, Bool.and_false])
      clear HB hi ha
      go_enter Try.func18, Try.ntmps18
      go_wp2_with fail
      go_ret
      exact ⟨rfl, (Below.refl _ _).alloc (Nat.le_refl _) _⟩
  · have hi' := nilB_no hi
    obtain rfl : false = B := by (have hq : ¬ (v = 0 ∧ i.data.toList = [] ∧ a.data.toList = []) := fun h => hi h.2.1); (rw [← HB.out, decide_eq_false hq, Bool.and_false])
    clear HB hi
    go_enter Try.func18, Try.ntmps18
    go_wp2_with fail
    go_ret
    exact ⟨rfl, (Below.refl _ _).alloc (Nat.le_refl _) _⟩

theorem right_none (l e k v d : Int) (i a : ByteArray) (w : World) (hl : (l == 0) = false) (h1 : (k == 1) = false) (h2 : (k == 2) = false) (h3 : (k == 3) = false) :
    Calls Try.prog 18 #[.agg #[.int .u64 l, .int .u32 e, .int .i64 k, .int .u64 v, .int .u64 d, .string i, .string a]] w fun e' w' => e' = .returned (.bool false) ∧ Below w.heap.size w w' := by
  go_enter Try.func18, Try.ntmps18
  go_wp2_with fail
  go_ret
  exact ⟨rfl, (Below.refl _ _).alloc (Nat.le_refl _) _⟩

/-- lodgerref06.Right. -/
theorem right_any (l e k v d : Int) (i a : ByteArray) (B : Bool) (w : World) (hs : i.size ≤ maxLen) (ha : a.size ≤ maxLen) (hB : okR ⟨l, e, k, v, d, i.data.toList, a.data.toList⟩ = B) :
    Calls Try.prog 18 #[.agg #[.int .u64 l, .int .u32 e, .int .i64 k, .int .u64 v, .int .u64 d, .string i, .string a]] w fun e' w' => e' = .returned (.bool B) ∧ Below w.heap.size w w' := by
  subst hB
  have hsz := Go.Lib.size_eq a
  by_cases hl : l = 0
  · have e0 : okR ⟨l, e, k, v, d, i.data.toList, a.data.toList⟩ = false := by
      rw [Bool.eq_false_iff]; intro h; exact ((okR_iff _).1 h).1 hl
    rw [e0]; exact right_zero l e k v d i a w hl
  have hl' : (l == 0) = false := by rw [beq_eq_false_iff_ne]; exact hl
  by_cases h1 : k = 1
  · have e0 : okR ⟨l, e, k, v, d, i.data.toList, a.data.toList⟩ = (idB i.data.toList && vaB a.size) := by
      rw [Bool.eq_iff_iff, okR_iff, Bool.and_eq_true, vaB, decide_eq_true_iff, hsz]
      constructor
      · rintro ⟨_, h | h | h⟩
        · exact h.2
        · have := h.1; simp only at this; omega
        · have := h.1; simp only at this; omega
      · intro h; exact ⟨hl, Or.inl ⟨h1, h⟩⟩
    rw [e0]; exact right_live l e k v d i a w hl' hs ha h1
  by_cases h2 : k = 2
  · have e0 : okR ⟨l, e, k, v, d, i.data.toList, a.data.toList⟩ = (idB i.data.toList && decide (a.data.toList = [] ∧ d = 0)) := by
      rw [Bool.eq_iff_iff, okR_iff, Bool.and_eq_true, decide_eq_true_iff]
      constructor
      · rintro ⟨_, h | h | h⟩
        · have := h.1; simp only at this; omega
        · exact h.2
        · have := h.1; simp only at this; omega
      · intro h; exact ⟨hl, Or.inr (Or.inl ⟨h2, h⟩)⟩
    rw [e0]; exact right_tomb l e k v d i a w hl' hs h2
  by_cases h3 : k = 3
  · have e0 : okR ⟨l, e, k, v, d, i.data.toList, a.data.toList⟩ = (decide (d < 16) && decide (v = 0 ∧ i.data.toList = [] ∧ a.data.toList = [])) := by
      rw [Bool.eq_iff_iff, okR_iff, Bool.and_eq_true, decide_eq_true_iff, decide_eq_true_iff]
      constructor
      · rintro ⟨_, h | h | h⟩
        · have := h.1; simp only at this; omega
        · have := h.1; simp only at this; omega
        · exact ⟨h.2.2.2.2, h.2.2.2.1, h.2.1, h.2.2.1⟩
      · intro h; exact ⟨hl, Or.inr (Or.inr ⟨h3, h.2.2.1, h.2.2.2, h.2.1, h.1⟩)⟩
    rw [e0]; exact right_foot l e k v d i a w hl' h3
  · have e0 : okR ⟨l, e, k, v, d, i.data.toList, a.data.toList⟩ = false := by
      rw [Bool.eq_false_iff]; intro h
      rcases ((okR_iff _).1 h).2 with h | h | h
      · exact h1 h.1
      · exact h2 h.1
      · exact h3 h.1
    rw [e0]
    exact right_none l e k v d i a w hl' (by rw [beq_eq_false_iff_ne]; exact h1) (by rw [beq_eq_false_iff_ne]; exact h2) (by rw [beq_eq_false_iff_ne]; exact h3)

theorem info_rec : (Try.prog.info? 33).map (·.size) = some 7 := by kernel_rfl

/-- A record that lies at a block is read. -/
theorem load_rec {W : World} {B : Nat} {l e k v d : Int} {i a : ByteArray} (h : LiesR W B l e k v d i a) : (loadVar 33 ⟨B, 0, none⟩).run Try.prog W = .ok (.agg #[.int .u64 l, .int .u32 e, .int .i64 k, .int .u64 v, .int .u64 d, .string i, .string a]) W := by
  have hr : W.rangeAt B 0 [.int .u64 l, .int .u32 e, .int .i64 k, .int .u64 v, .int .u64 d, .string i, .string a] := by
    intro j u hj
    match j, hj with
    | 0, hj => cases hj; exact h.c0
    | 1, hj => cases hj; exact h.c1
    | 2, hj => cases hj; exact h.c2
    | 3, hj => cases hj; exact h.c3
    | 4, hj => cases hj; exact h.c4
    | 5, hj => cases hj; exact h.c5
    | 6, hj => cases hj; exact h.c6
    | j + 7, hj => simp at hj
  exact run_loadVar_mid W B 0 33 _ _ hr Try.underlying33 rfl info_rec

theorem res_rec1 {fn : Func} {p : Tmp} (h : fn.results = #[.cell p 33]) (tmps : Array Value) (W : World) (B : Nat) {l e k v d : Int} {i a : ByteArray} (hp : tmps.getD p undef = .pointer (some ⟨B, 0, none⟩)) (L : LiesR W B l e k v d i a) :
    (results fn tmps).run Try.prog W = .ok (.agg #[.int .u64 l, .int .u32 e, .int .i64 k, .int .u64 v, .int .u64 d, .string i, .string a]) W := by
  have hp' : tmps[p]?.getD undef = .pointer (some ⟨B, 0, none⟩) := by simpa using hp
  simp [results, h, hp', asAddr, load_rec L]
theorem res_rec2 {fn : Func} {p u : Tmp} (h : fn.results = #[.cell p 33, .tmp u]) (tmps : Array Value) (W : World) (B : Nat) {l e k v d : Int} {i a : ByteArray} (hp : tmps.getD p undef = .pointer (some ⟨B, 0, none⟩)) (L : LiesR W B l e k v d i a) :
    (results fn tmps).run Try.prog W = .ok (.tuple #[.agg #[.int .u64 l, .int .u32 e, .int .i64 k, .int .u64 v, .int .u64 d, .string i, .string a], tmps.getD u undef]) W := by
  have hp' : tmps[p]?.getD undef = .pointer (some ⟨B, 0, none⟩) := by simpa using hp
  rw [results_cell_tmp h]
  simp [hp', asAddr, load_rec L, Result.andThen]

end R6

/-- The same record, for the document. -/
theorem ref_any (l e k v d : Int) (i a : ByteArray) (w : World) :
    Calls Try.prog 12 #[.agg #[.int .u64 l, .int .u32 e, .int .i64 k, .int .u64 v, .int .u64 d, .string i, .string a]] w fun e' w' => e' = .returned (.agg #[.int .u64 l, .int .u32 e, .int .i64 k, .int .u64 v, .int .u64 d, .string i, .string a]) ∧ Below w.heap.size w w' := by
  go_enter Try.func12, Try.ntmps12
  go_wp2_with fail
  have L := layR l e k v d i a 33 (w.alloc (.cells #[.int .u64 l, .int .u32 e, .int .i64 k, .int .u64 v, .int .u64 d, .string i, .string a] 25))
  rw [show (w.alloc (.cells #[.int .u64 l, .int .u32 e, .int .i64 k, .int .u64 v, .int .u64 d, .string i, .string a] 25)).heap.size = w.heap.size + 1 by simp] at L
  exact bodyPost_ret (R6.res_rec1 rfl _ _ (w.heap.size + 1) rfl L) rfl ⟨rfl, ((Below.refl _ _).alloc (Nat.le_refl _) _).alloc (by simp) _⟩

end Go.Proofs.Ytgpcfdkblkkpeaa
