/- A part of the proofs of the statements about logs. -/
import Derived.Test.YtdpmjlbkojhooaaGreatPLwR
import Derived.Deep.DeepCutAuto
namespace Go.Proofs.YtdpmjlbkojhooaaGreat.Rc
open Go.RowKit Go.Lib
set_option linter.unusedVariables false
set_option maxRecDepth 100000
open Go.RowKit Go.Lib Wd Cr Ck
set_option linter.unusedVariables false
open Go.RowKit Go.Lib Wd Cr Ck
set_option linter.unusedVariables false
def cut80 (s : ByteArray) : ByteArray := s.extract 0 (min (s.size : Int) 80).toNat
theorem cut80_size (s : ByteArray) : (cut80 s).size ≤ 80 := by
  rw [Go.Lib.size_eq, cut80, ext_take, List.length_take]; omega
set_option maxHeartbeats 4000000 in
set_option maxRecDepth 100000 in
theorem lawcut_any (l e k v d : Int) (i a : ByteArray) (w : World) (hi : i.size ≤ maxLen) (ha : a.size ≤ maxLen) :
    Calls Tryz.prog 22 #[.agg #[.int .u64 l, .int .u32 e, .int .i64 k, .int .u64 v, .int .u64 d, .string i, .string a]] w fun e' w' => e' = .returned (.agg #[.int .u64 l, .int .u32 e, .int .i64 k, .int .u64 v, .int .u64 d, .string (cut80 i), .string (cut80 a)]) ∧ Below w.heap.size w w' := by
  unfold maxLen at hi ha
  have E1 := Lib.hid (show i.extract 0 (min (i.size : Int) 80).toNat = cut80 i from rfl)
  have E2 := Lib.hid (show a.extract 0 (min (a.size : Int) 80).toNat = cut80 a from rfl)
  generalize cut80 i = i2 at *
  generalize cut80 a = a2 at *
  go_enter Tryz.func22, Tryz.ntmps22
  go_wp2_with fail
  rw [E1.out, E2.out]
  have L := layR l e k v d i2 a2 46 (w.alloc (.cells #[.int .u64 l, .int .u32 e, .int .i64 k, .int .u64 v, .int .u64 d, .string i2, .string a2] 46))
  rw [show (w.alloc (.cells #[.int .u64 l, .int .u32 e, .int .i64 k, .int .u64 v, .int .u64 d, .string i2, .string a2] 46)).heap.size = w.heap.size + 1 by simp] at L
  exact bodyPost_ret (res_rec1 rfl _ _ (w.heap.size + 1) rfl L) rfl ⟨rfl, ((Below.refl _ _).alloc (Nat.le_refl _) _).alloc (by simp) _⟩
open Go.RowKit Go.Lib Wd Cr Ck
set_option linter.unusedVariables false
structure FR (W : World) (B : Nat) (l e k v d : Int) (i a : ByteArray) : Prop where
  L : LiesR W B l e k v d i a
  F : ∀ j, j < 7 → W.frozen? ⟨B, j, none⟩ = false
theorem FR.later {W w : World} {B : Nat} {l e k v d : Int} {i a : ByteArray} (h : FR W B l e k v d i a) (hb : Below W.heap.size W w) : FR w B l e k v d i a :=
  ⟨h.L.later hb, fun j hj => ((bcell hb).2 _ _ h.L.lt).trans (h.F j hj)⟩
theorem frz7 {W : World} {B : Nat} (l e k v d : Int) (i a : ByteArray) {j : Nat} {b : Nat} : ((((((((W.setCell ⟨B, 0, none⟩ (.int .u64 l)).setCell ⟨B, 1, none⟩ (.int .u32 e)).setCell ⟨B, 2, none⟩ (.int .i64 k)).setCell ⟨B, 3, none⟩ (.int .u64 v)).setCell ⟨B, 4, none⟩ (.int .u64 d)).setCell ⟨B, 5, none⟩ (.string i)).setCell ⟨B, 6, none⟩ (.string a))).frozen? ⟨b, j, none⟩ = W.frozen? ⟨b, j, none⟩ := by
  simp only [World.frozen?_setCell]
theorem size7 {W : World} {B : Nat} (l e k v d : Int) (i a : ByteArray) : ((((((((W.setCell ⟨B, 0, none⟩ (.int .u64 l)).setCell ⟨B, 1, none⟩ (.int .u32 e)).setCell ⟨B, 2, none⟩ (.int .i64 k)).setCell ⟨B, 3, none⟩ (.int .u64 v)).setCell ⟨B, 4, none⟩ (.int .u64 d)).setCell ⟨B, 5, none⟩ (.string i)).setCell ⟨B, 6, none⟩ (.string a))).heap.size = W.heap.size := by simp only [size_setCell]
theorem FR.put {W : World} {B : Nat} {l e k v d l' e' k' v' d' : Int} {i a i' a' : ByteArray} (h : FR W B l' e' k' v' d' i' a') : FR ((((((((W.setCell ⟨B, 0, none⟩ (.int .u64 l)).setCell ⟨B, 1, none⟩ (.int .u32 e)).setCell ⟨B, 2, none⟩ (.int .i64 k)).setCell ⟨B, 3, none⟩ (.int .u64 v)).setCell ⟨B, 4, none⟩ (.int .u64 d)).setCell ⟨B, 5, none⟩ (.string i)).setCell ⟨B, 6, none⟩ (.string a))) B l e k v d i a :=
  ⟨put7 l e k v d i a (there_of h.L h.F) h.L.lt, fun j hj => by rw [frz7]; exact h.F j hj⟩
theorem FR.away {W : World} {B b : Nat} {l e k v d l' e' k' v' d' : Int} {i a i' a' : ByteArray} (h : FR W b l' e' k' v' d' i' a') (hb : B ≠ b) : FR ((((((((W.setCell ⟨B, 0, none⟩ (.int .u64 l)).setCell ⟨B, 1, none⟩ (.int .u32 e)).setCell ⟨B, 2, none⟩ (.int .i64 k)).setCell ⟨B, 3, none⟩ (.int .u64 v)).setCell ⟨B, 4, none⟩ (.int .u64 d)).setCell ⟨B, 5, none⟩ (.string i)).setCell ⟨B, 6, none⟩ (.string a))) b l' e' k' v' d' i' a' :=
  ⟨liesR_set (liesR_set (liesR_set (liesR_set (liesR_set (liesR_set (liesR_set h.L _ _ _ hb) _ _ _ hb) _ _ _ hb) _ _ _ hb) _ _ _ hb) _ _ _ hb) _ _ _ hb, fun j hj => by rw [frz7]; exact h.F j hj⟩
open Go.RowKit Go.Lib Wd Cr Ck
set_option linter.unusedVariables false
section
variable {l e k v d : Int} {i a S : ByteArray}
end
open Go.RowKit Go.Lib Wd Cr Ck
set_option linter.unusedVariables false
theorem nilB_yes {s : ByteArray} (h : s.data.toList = []) : (s.toList == []) = true := by rw [beq_iff_eq, toList_data]; exact h
theorem nilB_no {s : ByteArray} (h : ¬ s.data.toList = []) : (s.toList == []) = false := by rw [beq_eq_false_iff_ne, toList_data]; exact h
namespace R6
theorem right_zero (l e k v d : Int) (i a : ByteArray) (w : World) (hl : l = 0) :
    Calls Tryz.prog 27 #[.agg #[.int .u64 l, .int .u32 e, .int .i64 k, .int .u64 v, .int .u64 d, .string i, .string a]] w fun e' w' => e' = .returned (.bool false) ∧ Below w.heap.size w w' := by
  subst hl
  go_enter Tryz.func27, Tryz.ntmps27
  go_wp2_with fail
  go_ret
  exact ⟨rfl, (Below.refl _ _).alloc (Nat.le_refl _) _⟩
theorem right_live (l e k v d : Int) (i a : ByteArray) (w : World) (hl : (l == 0) = false) (hs : i.size ≤ maxLen) (ha : a.size ≤ maxLen) (hk : k = 1) :
    Calls Tryz.prog 27 #[.agg #[.int .u64 l, .int .u32 e, .int .i64 k, .int .u64 v, .int .u64 d, .string i, .string a]] w fun e' w' => e' = .returned (.bool (idB i.data.toList && vaB a.size)) ∧ Below w.heap.size w w' := by
  subst hk
  have C := Lib.hid (fun w => R4.id_any i w hs)
  have D := Lib.hid (fun w => R4.value_any a w ha)
  cases hi : idB i.data.toList
  · rw [hi] at C
    go_enter Tryz.func27, Tryz.ntmps27
    go_wp2_with fail
    refine (C.out _).mono ?_
    rintro e' w' ⟨rfl, rfl⟩
    go_wp2_with fail
    go_ret
    exact ⟨rfl, (Below.refl _ _).alloc (Nat.le_refl _) _⟩
  · rw [hi] at C
    generalize vaB a.size = B at *
    go_enter Tryz.func27, Tryz.ntmps27
    go_wp2_with fail
    refine (C.out _).mono ?_
    rintro e' w' ⟨rfl, rfl⟩
    go_wp2_with fail
    refine (D.out _).mono ?_
    rintro e' w' ⟨rfl, rfl⟩
    go_wp2_with fail
    go_ret
    exact ⟨ret_bool (by simp), (Below.refl _ _).alloc (Nat.le_refl _) _⟩
set_option maxHeartbeats 1000000 in
theorem right_tomb (l e k v d : Int) (i a : ByteArray) (w : World) (hl : (l == 0) = false) (hs : i.size ≤ maxLen) (hk : k = 2) :
    Calls Tryz.prog 27 #[.agg #[.int .u64 l, .int .u32 e, .int .i64 k, .int .u64 v, .int .u64 d, .string i, .string a]] w fun e' w' => e' = .returned (.bool (idB i.data.toList && decide (a.data.toList = [] ∧ d = 0))) ∧ Below w.heap.size w w' := by
  subst hk
  have C := Lib.hid (fun w => R4.id_any i w hs)
  obtain ⟨B, HB⟩ : ∃ B, Hid ((idB i.data.toList && decide (a.data.toList = [] ∧ d = 0)) = B) := ⟨_, rfl⟩
  rw [HB.out]
  cases hi : idB i.data.toList
  · rw [hi] at C
    obtain rfl : false = B := by rw [← HB.out, hi]; rfl
    go_enter Tryz.func27, Tryz.ntmps27
    go_wp2_with fail
    refine (C.out _).mono ?_
    rintro e' w' ⟨rfl, rfl⟩
    go_wp2_with fail
    go_ret
    exact ⟨rfl, (Below.refl _ _).alloc (Nat.le_refl _) _⟩
  · rw [hi] at C
    by_cases ha : a.data.toList = []
    · have ha' := nilB_yes ha
      obtain ⟨D, hD⟩ : ∃ D, (d == 0) = D := ⟨_, rfl⟩
      obtain rfl : D = B := by
        rw [← HB.out, hi, Bool.true_and, ← hD, Bool.eq_iff_iff, beq_iff_eq, decide_eq_true_iff]
        exact ⟨fun h => ⟨ha, h⟩, fun h => h.2⟩
      clear HB hi ha
      go_enter Tryz.func27, Tryz.ntmps27
      go_wp2_with fail
      refine (C.out _).mono ?_
      rintro e' w' ⟨rfl, rfl⟩
      go_wp2_with fail
      go_ret
      exact ⟨rfl, (Below.refl _ _).alloc (Nat.le_refl _) _⟩
    · have ha' := nilB_no ha
      obtain rfl : false = B := by
        rw [← HB.out, hi, Bool.true_and, decide_eq_false (fun h => ha h.1)]
      clear HB hi ha
      go_enter Tryz.func27, Tryz.ntmps27
      go_wp2_with fail
      refine (C.out _).mono ?_
      rintro e' w' ⟨rfl, rfl⟩
      go_wp2_with fail
      go_ret
      exact ⟨rfl, (Below.refl _ _).alloc (Nat.le_refl _) _⟩
set_option maxHeartbeats 1000000 in
theorem right_foot (l e k v d : Int) (i a : ByteArray) (w : World) (hl : (l == 0) = false) (hk : k = 3) :
    Calls Tryz.prog 27 #[.agg #[.int .u64 l, .int .u32 e, .int .i64 k, .int .u64 v, .int .u64 d, .string i, .string a]] w fun e' w' => e' = .returned (.bool (decide (d < 16) && decide (v = 0 ∧ i.data.toList = [] ∧ a.data.toList = []))) ∧ Below w.heap.size w w' := by
  subst hk
  obtain ⟨B, HB⟩ : ∃ B, Hid ((decide (d < 16) && decide (v = 0 ∧ i.data.toList = [] ∧ a.data.toList = [])) = B) := ⟨_, rfl⟩
  rw [HB.out]
  by_cases hi : i.data.toList = []
  · have hi' := nilB_yes hi
    by_cases ha : a.data.toList = []
    · have ha' := nilB_yes ha
      by_cases hv : v = 0
      · have hv' : (v == 0) = true := by rw [beq_iff_eq]; exact hv
        by_cases hd : d < 16
        · obtain rfl : true = B := by rw [← HB.out, decide_eq_true hd, Bool.true_and, decide_eq_true ⟨hv, hi, ha⟩]
          clear HB hi ha
          go_enter Tryz.func27, Tryz.ntmps27
          go_wp2_with fail
          go_ret
          exact ⟨rfl, (Below.refl _ _).alloc (Nat.le_refl _) _⟩
        · obtain rfl : false = B := by rw [← HB.out, decide_eq_false hd, Bool.false_and]
          clear HB hi ha
          go_enter Tryz.func27, Tryz.ntmps27
          go_wp2_with fail
          go_ret
          exact ⟨rfl, (Below.refl _ _).alloc (Nat.le_refl _) _⟩
      · have hv' : (v == 0) = false := by rw [beq_eq_false_iff_ne]; exact hv
        obtain rfl : false = B := by (have hq : ¬ (v = 0 ∧ i.data.toList = [] ∧ a.data.toList = []) := fun h => hv h.1); (rw [← HB.out, decide_eq_false hq, Bool.and_false])
        clear HB hi ha hv
        go_enter Tryz.func27, Tryz.ntmps27
        go_wp2_with fail
        go_ret
        exact ⟨rfl, (Below.refl _ _).alloc (Nat.le_refl _) _⟩
    · have ha' := nilB_no ha
      obtain rfl : false = B := by (have hq : ¬ (v = 0 ∧ i.data.toList = [] ∧ a.data.toList = []) := fun h => ha h.2.2); (rw [← HB.out, decide_eq_false hq, Bool.and_false])
      clear HB hi ha
      go_enter Tryz.func27, Tryz.ntmps27
      go_wp2_with fail
      go_ret
      exact ⟨rfl, (Below.refl _ _).alloc (Nat.le_refl _) _⟩
  · have hi' := nilB_no hi
    obtain rfl : false = B := by (have hq : ¬ (v = 0 ∧ i.data.toList = [] ∧ a.data.toList = []) := fun h => hi h.2.1); (rw [← HB.out, decide_eq_false hq, Bool.and_false])
    clear HB hi
    go_enter Tryz.func27, Tryz.ntmps27
    go_wp2_with fail
    go_ret
    exact ⟨rfl, (Below.refl _ _).alloc (Nat.le_refl _) _⟩
theorem right_none (l e k v d : Int) (i a : ByteArray) (w : World) (hl : (l == 0) = false) (h1 : (k == 1) = false) (h2 : (k == 2) = false) (h3 : (k == 3) = false) :
    Calls Tryz.prog 27 #[.agg #[.int .u64 l, .int .u32 e, .int .i64 k, .int .u64 v, .int .u64 d, .string i, .string a]] w fun e' w' => e' = .returned (.bool false) ∧ Below w.heap.size w w' := by
  go_enter Tryz.func27, Tryz.ntmps27
  go_wp2_with fail
  go_ret
  exact ⟨rfl, (Below.refl _ _).alloc (Nat.le_refl _) _⟩
theorem right_any (l e k v d : Int) (i a : ByteArray) (B : Bool) (w : World) (hs : i.size ≤ maxLen) (ha : a.size ≤ maxLen) (hB : okR ⟨l, e, k, v, d, i.data.toList, a.data.toList⟩ = B) :
    Calls Tryz.prog 27 #[.agg #[.int .u64 l, .int .u32 e, .int .i64 k, .int .u64 v, .int .u64 d, .string i, .string a]] w fun e' w' => e' = .returned (.bool B) ∧ Below w.heap.size w w' := by
  subst hB
  have hsz := Go.Lib.size_eq a
  by_cases hl : l = 0
  · have e0 : okR ⟨l, e, k, v, d, i.data.toList, a.data.toList⟩ = false := by
      rw [Bool.eq_false_iff]; intro h; exact ((okR_iff _).1 h).1 hl
    rw [e0]; exact right_zero l e k v d i a w hl
  have hl' : (l == 0) = false := by rw [beq_eq_false_iff_ne]; exact hl
  by_cases h1 : k = 1
  · have e0 : okR ⟨l, e, k, v, d, i.data.toList, a.data.toList⟩ = (idB i.data.toList && vaB a.size) := by
      rw [Bool.eq_iff_iff, okR_iff, Bool.and_eq_true, vaB, decide_eq_true_iff, hsz]
      constructor
      · rintro ⟨_, h | h | h⟩
        · exact h.2
        · have := h.1; simp only at this; omega
        · have := h.1; simp only at this; omega
      · intro h; exact ⟨hl, Or.inl ⟨h1, h⟩⟩
    rw [e0]; exact right_live l e k v d i a w hl' hs ha h1
  by_cases h2 : k = 2
  · have e0 : okR ⟨l, e, k, v, d, i.data.toList, a.data.toList⟩ = (idB i.data.toList && decide (a.data.toList = [] ∧ d = 0)) := by
      rw [Bool.eq_iff_iff, okR_iff, Bool.and_eq_true, decide_eq_true_iff]
      constructor
      · rintro ⟨_, h | h | h⟩
        · have := h.1; simp only at this; omega
        · exact h.2
        · have := h.1; simp only at this; omega
      · intro h; exact ⟨hl, Or.inr (Or.inl ⟨h2, h⟩)⟩
    rw [e0]; exact right_tomb l e k v d i a w hl' hs h2
  by_cases h3 : k = 3
  · have e0 : okR ⟨l, e, k, v, d, i.data.toList, a.data.toList⟩ = (decide (d < 16) && decide (v = 0 ∧ i.data.toList = [] ∧ a.data.toList = [])) := by
      rw [Bool.eq_iff_iff, okR_iff, Bool.and_eq_true, decide_eq_true_iff, decide_eq_true_iff]
      constructor
      · rintro ⟨_, h | h | h⟩
        · have := h.1; simp only at this; omega
        · have := h.1; simp only at this; omega
        · exact ⟨h.2.2.2.2, h.2.2.2.1, h.2.1, h.2.2.1⟩
      · intro h; exact ⟨hl, Or.inr (Or.inr ⟨h3, h.2.2.1, h.2.2.2, h.2.1, h.1⟩)⟩
    rw [e0]; exact right_foot l e k v d i a w hl' h3
  · have e0 : okR ⟨l, e, k, v, d, i.data.toList, a.data.toList⟩ = false := by
      rw [Bool.eq_false_iff]; intro h
      rcases ((okR_iff _).1 h).2 with h | h | h
      · exact h1 h.1
      · exact h2 h.1
      · exact h3 h.1
    rw [e0]
    exact right_none l e k v d i a w hl' (by rw [beq_eq_false_iff_ne]; exact h1) (by rw [beq_eq_false_iff_ne]; exact h2) (by rw [beq_eq_false_iff_ne]; exact h3)
theorem info_rec : (Tryz.prog.info? 70).map (·.size) = some 7 := by kernel_rfl
theorem load_rec {W : World} {B : Nat} {l e k v d : Int} {i a : ByteArray} (h : LiesR W B l e k v d i a) : (loadVar 70 ⟨B, 0, none⟩).run Tryz.prog W = .ok (.agg #[.int .u64 l, .int .u32 e, .int .i64 k, .int .u64 v, .int .u64 d, .string i, .string a]) W := by
  have hr : W.rangeAt B 0 [.int .u64 l, .int .u32 e, .int .i64 k, .int .u64 v, .int .u64 d, .string i, .string a] := by
    intro j u hj
    match j, hj with
    | 0, hj => cases hj; exact h.c0
    | 1, hj => cases hj; exact h.c1
    | 2, hj => cases hj; exact h.c2
    | 3, hj => cases hj; exact h.c3
    | 4, hj => cases hj; exact h.c4
    | 5, hj => cases hj; exact h.c5
    | 6, hj => cases hj; exact h.c6
    | j + 7, hj => simp at hj
  exact run_loadVar_mid W B 0 70 _ _ hr Tryz.underlying70 rfl info_rec
theorem res_rec1 {fn : Func} {p : Tmp} (h : fn.results = #[.cell p 70]) (tmps : Array Value) (W : World) (B : Nat) {l e k v d : Int} {i a : ByteArray} (hp : tmps.getD p undef = .pointer (some ⟨B, 0, none⟩)) (L : LiesR W B l e k v d i a) :
    (results fn tmps).run Tryz.prog W = .ok (.agg #[.int .u64 l, .int .u32 e, .int .i64 k, .int .u64 v, .int .u64 d, .string i, .string a]) W := by
  have hp' : tmps[p]?.getD undef = .pointer (some ⟨B, 0, none⟩) := by simpa using hp
  simp [results, h, hp', asAddr, load_rec L]
end R6
theorem ref_any (l e k v d : Int) (i a : ByteArray) (w : World) :
    Calls Tryz.prog 26 #[.agg #[.int .u64 l, .int .u32 e, .int .i64 k, .int .u64 v, .int .u64 d, .string i, .string a]] w fun e' w' => e' = .returned (.agg #[.int .u64 l, .int .u32 e, .int .i64 k, .int .u64 v, .int .u64 d, .string i, .string a]) ∧ Below w.heap.size w w' := by
  go_enter Tryz.func26, Tryz.ntmps26
  go_wp2_with fail
  have L := layR l e k v d i a 70 (w.alloc (.cells #[.int .u64 l, .int .u32 e, .int .i64 k, .int .u64 v, .int .u64 d, .string i, .string a] 46))
  rw [show (w.alloc (.cells #[.int .u64 l, .int .u32 e, .int .i64 k, .int .u64 v, .int .u64 d, .string i, .string a] 46)).heap.size = w.heap.size + 1 by simp] at L
  exact bodyPost_ret (R6.res_rec1 rfl _ _ (w.heap.size + 1) rfl L) rfl ⟨rfl, ((Below.refl _ _).alloc (Nat.le_refl _) _).alloc (by simp) _⟩
open Go.RowKit Go.Lib Wd Cr Ck
set_option linter.unusedVariables false
namespace R6
end R6
open Go.RowKit Go.Lib Wd Cr Ck
set_option linter.unusedVariables false
structure DecC (w : World) (H : Nat) (listed : Array Bool) (W : World) : Prop where
  b : Below w.heap.size w W
  z : ZR W w.heap.size
  n : w.heap.size < H
  sz : listed.getD 29 false = false → W.heap.size = H
theorem DecC.set {w W : World} {H i : Nat} {listed : Array Bool} (h : DecC w H listed W) (hi : i ≠ 29) : DecC w H (listed.setIfInBounds i true) W :=
  ⟨h.b, h.z, h.n, fun hl => h.sz (by rw [← getD_set_ne false hi]; exact hl)⟩
theorem DecC.alloc {w W : World} {H : Nat} {listed : Array Bool} (h : DecC w H listed W) (cs : Array Value) (t : TypeId) (hs : W.heap.size = H) (hlt : 29 < listed.size) : DecC w H (listed.setIfInBounds 29 true) (W.alloc (.cells cs t)) :=
  ⟨Wd.Ge.trans h.b (below1 _ _), h.z.later (below1 _ _), h.n, fun hl => by simp [hlt] at hl⟩
theorem DecC.store {w W : World} {H : Nat} {listed : Array Bool} {l e k v d l' e' k' v' d' : Int} {i a i' a' : ByteArray} (h : DecC w H listed W) (G : FR W H l' e' k' v' d' i' a') :
    DecC w H (listed.setIfInBounds 30 true) ((((((((W.setCell ⟨H, 0, none⟩ (.int .u64 l)).setCell ⟨H, 1, none⟩ (.int .u32 e)).setCell ⟨H, 2, none⟩ (.int .i64 k)).setCell ⟨H, 3, none⟩ (.int .u64 v)).setCell ⟨H, 4, none⟩ (.int .u64 d)).setCell ⟨H, 5, none⟩ (.string i)).setCell ⟨H, 6, none⟩ (.string a))) :=
  have hz : FR W w.heap.size 0 0 0 0 0 ⟨#[]⟩ ⟨#[]⟩ := ⟨h.z.L, h.z.F⟩
  have hn := h.n
  have hz' := hz.away (B := H) (l := l) (e := e) (k := k) (v := v) (d := d) (i := i) (a := a) (by omega)
  ⟨below7 l e k v d i a h.b (Nat.le_of_lt h.n), ⟨hz'.L, hz'.F⟩, h.n, fun hl => by rw [size7]; exact h.sz (by rw [← getD_set_ne false (show 30 ≠ 29 by decide)]; exact hl)⟩
structure DZ (w W : World) : Prop where
  b : Below w.heap.size w W
  z : ZR W w.heap.size
theorem DZ.drawn {w W : World} (h : DZ w W) : DZ w { W with drawn := W.drawn + 1 } :=
  ⟨⟨h.b.os, h.b.tape, h.b.output, h.b.size, h.b.block⟩, ⟨⟨h.z.L.lt, h.z.L.c0, h.z.L.c1, h.z.L.c2, h.z.L.c3, h.z.L.c4, h.z.L.c5, h.z.L.c6⟩, h.z.F⟩⟩
namespace R6
end R6
open Go.RowKit Go.Lib Wd Cr Ck
set_option linter.unusedVariables false
namespace R6
end R6
end Go.Proofs.YtdpmjlbkojhooaaGreat.Rc
