/- Contracts of ckpt's need, rightSegments and Right: whether a checkpoint may be, and that no memory that was there is changed. -/
import Derived.Test.YtdnkhjikfdalbaaCpM
import Derived.Test.YtdnkhjikfdalbaaMem
import Derived.Test.YtdnkhjikfdalbaaClass
import Derived.WalkLawsBesides
import Derived.WalkSmall
import Derived.Deep.LoopGhost
namespace Go.Proofs.Ytdnkhjikfdalbaa
open Go.RowKit Go.Lib Wd Cr
set_option linter.unusedVariables false

theorem bcell {W w1 : World} (hb : Below W.heap.size W w1) : (∀ b o, b < W.heap.size → w1.cell? ⟨b, o, none⟩ = W.cell? ⟨b, o, none⟩) ∧ (∀ b o, b < W.heap.size → w1.frozen? ⟨b, o, none⟩ = W.frozen? ⟨b, o, none⟩) :=
  ⟨fun b o h => hb.cell (p := ⟨b, o, none⟩) h, fun b o h => hb.frozen (p := ⟨b, o, none⟩) h⟩
theorem below1 (w : World) (o : Obj) : Below w.heap.size w (w.alloc o) := (Below.refl _ _).alloc (Nat.le_refl _) _
theorem ret_bool {a b : Bool} (h : a = b) : Ending.returned (.bool a) = .returned (.bool b) := by rw [h]

theorem need_yes (w : World) : Calls Try.prog 38 #[.bool true] w fun e w' => e = .returned (.tuple #[]) ∧ w = w' := by
  go_enter Try.func38, Try.ntmps38
  go_wp2_with fail
  go_end0
  exact ⟨rfl, rfl⟩
/-- The panic of a field that no sector has. -/
def bad : List PanicEntry := [{ v := .iface 28 (.int .i64 5), recovered := false }]
theorem need_no (w : World) : Calls Try.prog 38 #[.bool false] w fun e w' => e = .panicked bad ∧ w = w' := by
  go_enter Try.func38, Try.ntmps38
  go_wp2_with fail
  exact ⟨rfl, rfl, rfl⟩

/-- A slice of ints that reads as a list. -/
structure Sl (W : World) (A : Option Addr) (m : Nat) (l : List Int) : Prop where
  len : m = l.length
  cells : CellsIn W A m (fun j => .int .i64 (nth l j))
theorem Sl.later {W W' : World} {A : Option Addr} {m : Nat} {l : List Int} (h : Sl W A m l) (hb : Below W.heap.size W W') : Sl W' A m l := ⟨h.len, h.cells.later hb⟩
theorem Sl.nil (W : World) : Sl W none 0 [] := ⟨rfl, fun h => absurd h (by omega)⟩

/-- The first i segments may be. -/
structure Good (o n : List Int) (i : Nat) : Prop where
  po : ∀ x ∈ o.take i, 0 ≤ x ∧ x < 16
  pn : ∀ x ∈ n.take i, 0 ≤ x ∧ x ≤ 30
  pd : (o.take i).Nodup
theorem take_nth {l : List Int} {i : Nat} (h : i < l.length) : l.take (i + 1) = l.take i ++ [nth l i] := by
  rw [List.take_succ_eq_append_getElem h]
  unfold nth
  rw [List.getD_eq_getElem?_getD, List.getElem?_eq_getElem h]
  rfl
theorem Good.next {o n : List Int} {i : Nat} (h : Good o n i) (ho : i < o.length) (hn : i < n.length) (h1 : 0 ≤ nth o i ∧ nth o i < 16) (h2 : 0 ≤ nth n i ∧ nth n i ≤ 30) (h3 : nth o i ∉ o.take i) : Good o n (i + 1) := by
  refine ⟨?_, ?_, ?_⟩
  · intro x hx
    rw [take_nth ho, List.mem_append, List.mem_singleton] at hx
    rcases hx with hx | rfl
    · exact h.po x hx
    · exact h1
  · intro x hx
    rw [take_nth hn, List.mem_append, List.mem_singleton] at hx
    rcases hx with hx | rfl
    · exact h.pn x hx
    · exact h2
  · rw [take_nth ho, List.nodup_append]
    refine ⟨h.pd, by simp, ?_⟩
    intro a ha b hb
    rw [List.mem_singleton] at hb
    subst hb
    intro e
    subst e
    exact h3 ha
theorem mem_take {l : List Int} {x : Int} {i : Nat} (h : x ∈ l.take i) : x ∈ l := List.mem_of_mem_take h
theorem not_nodup {o : List Int} {i : Nat} (ho : i < o.length) (h : nth o i ∈ o.take i) : ¬ o.Nodup := by
  intro hd
  have h2 : (o.take (i + 1)).Nodup := hd.sublist (List.take_sublist _ _)
  rw [take_nth ho, List.nodup_append] at h2
  exact h2.2.2 _ h _ (by simp) rfl

/-- Which segments are used, by the first i. -/
structure Used (w wr : World) (o n : List Int) (i : Nat) : Prop where
  b : Below w.heap.size w wr
  lt : w.heap.size < wr.heap.size
  c : ∀ j, j < 16 → wr.cell? ⟨w.heap.size, j, none⟩ = some (.bool (decide ((j : Int) ∈ o.take i)))
  f : ∀ j, j < 16 → wr.frozen? ⟨w.heap.size, j, none⟩ = false
  good : Good o n i

theorem Used.next {w wr : World} {o n : List Int} {i j : Nat} (h : Used w wr o n i) (ho : i < o.length) (hn : i < n.length) (hj : j < 16) (e : nth o i = (j : Int)) (h2 : 0 ≤ nth n i ∧ nth n i ≤ 30) (h3 : (j : Int) ∉ o.take i) :
    Used w (wr.setCell ⟨w.heap.size, j, none⟩ (.bool true)) o n (i + 1) := by
  refine ⟨h.b.setCell (Nat.le_refl _) _, by simpa using h.lt, fun i' hi' => ?_, fun i' hi' => ?_, h.good.next ho hn (by omega) h2 (by rw [e]; exact h3)⟩
  · by_cases hij : i' = j
    · subst hij
      rw [World.cell?_setCell_same _ _ _ (h.c _ hi')]
      rw [take_nth ho, e]
      simp
    · rw [World.cell?_setCell_other _ _ _ _ (by intro hh; injection hh with _ hh; omega), h.c _ hi', take_nth ho, e]
      simp
      intro hh
      omega
  · rw [World.frozen?_setCell]; exact h.f _ hi'

theorem used0 (w : World) (o n : List Int) (t : TypeId) : Used w (w.alloc (.cells #[.bool false, .bool false, .bool false, .bool false, .bool false, .bool false, .bool false, .bool false, .bool false, .bool false, .bool false, .bool false, .bool false, .bool false, .bool false, .bool false] t)) o n 0 := by
  refine ⟨below1 _ _, by simp, fun j hj => ?_, fun j hj => by simp [go_sem], ⟨by simp, by simp, by simp⟩⟩
  rcases (by omega : j = 0 ∨ j = 1 ∨ j = 2 ∨ j = 3 ∨ j = 4 ∨ j = 5 ∨ j = 6 ∨ j = 7 ∨ j = 8 ∨ j = 9 ∨ j = 10 ∨ j = 11 ∨ j = 12 ∨ j = 13 ∨ j = 14 ∨ j = 15) with rfl | rfl | rfl | rfl | rfl | rfl | rfl | rfl | rfl | rfl | rfl | rfl | rfl | rfl | rfl | rfl <;> simp [go_sem]

theorem seg_len (A : Option Addr) (m p : Nat) (B : Option Addr) (k q : Nat) (w : World) (hm : m ≤ maxLen) (h : m < 1 ∨ 16 < m ∨ (1 ≤ m ∧ m ≤ 16 ∧ k ≠ m)) :
    Calls Try.prog 30 #[.slice A m p, .slice B k q] w fun e w' => e = .returned (.bool false) ∧ Below w.heap.size w w' := by
  rcases h with h | h | ⟨h1, h2, h3⟩
  · obtain rfl : m = 0 := by omega
    go_enter Try.func30, Try.ntmps30
    go_wp2_with fail
    go_ret
    exact ⟨rfl, Below.refl _ _⟩
  · have h' : (16 : Int) < (m : Int) := by omega
    have h'' : ¬ (m : Int) < 1 := by omega
    go_enter Try.func30, Try.ntmps30
    go_wp2_with fail
    go_ret
    exact ⟨rfl, Below.refl _ _⟩
  · have h' : ¬ (16 : Int) < (m : Int) := by omega
    have h'' : ¬ (m : Int) < 1 := by omega
    have h4 : ((k : Int) != (m : Int)) = true := by simp; omega
    go_enter Try.func30, Try.ntmps30
    go_wp2_with fail
    go_ret
    exact ⟨rfl, Below.refl _ _⟩

set_option maxRecDepth 100000 in
set_option maxHeartbeats 4000000 in
theorem seg_main (ba oa : Nat) (m p : Nat) (bb ob : Nat) (q : Nat) (o n : List Int) (w : World) (hm1 : 1 ≤ m) (hm2 : m ≤ 16) (ho : Hid (m = o.length)) (hn : Hid (m = n.length)) (hba : ba < w.heap.size) (hbb : bb < w.heap.size)
    (CA : Hid (∀ j, j < m → w.cell? ⟨ba, oa + j, none⟩ = some (.int .i64 (nth o j)))) (CB : Hid (∀ j, j < m → w.cell? ⟨bb, ob + j, none⟩ = some (.int .i64 (nth n j)))) :
    Calls Try.prog 30 #[.slice (some ⟨ba, oa, none⟩) m p, .slice (some ⟨bb, ob, none⟩) m q] w fun e w' => e = .returned (.bool (segB o n)) ∧ Below w.heap.size w w' := by
  have h' : ¬ (16 : Int) < (m : Int) := by omega
  have h'' : ¬ (m : Int) < 1 := by omega
  have h4 : ((m : Int) != (m : Int)) = false := by simp
  have U0 := Lib.hid (used0 w o n 74)
  go_enter Try.func30, Try.ntmps30
  go_wp2_with fail
  go_loopg [25] 16 (fun gk s25 wr => ∃ i : Nat, i ≤ m ∧ gk = 16 - i ∧ s25 = .int .i64 i ∧ Hid (Used w wr o n i))
  case atStart => exact ⟨0, by omega, rfl, rfl, U0⟩
  case round =>
    obtain ⟨i, hi, hgk, rfl, U⟩ := hrel
    have HG := Lib.hid hgk
    clear hgk
    by_cases hlt : i < m
    · have hlti : (i : Int) < (m : Int) := by omega
      have ha := ((bcell U.out.b).1 ba (oa + i) hba).trans (CA.out i hlt)
      have hb := ((bcell U.out.b).1 bb (ob + i) hbb).trans (CB.out i hlt)
      have hoi : i < o.length := by have := ho.out; omega
      have hni : i < n.length := by have := hn.out; omega
      obtain ⟨x, X⟩ : ∃ x, Hid (nth o i = x) := ⟨_, rfl⟩
      obtain ⟨y, Y⟩ : ∃ y, Hid (nth n i = y) := ⟨_, rfl⟩
      rw [X.out] at ha
      rw [Y.out] at hb
      have bad0 : (x < 0 ∨ 16 ≤ x) → segB o n = false := fun hx => segB_no (fun hs => by
        have := hs.2.2.2.1 _ (nth_mem hoi)
        rw [X.out] at this
        omega)
      have bad1 : (y < 0 ∨ 30 < y) → segB o n = false := fun hx => segB_no (fun hs => by
        have := hs.2.2.2.2.1 _ (nth_mem hni)
        rw [Y.out] at this
        omega)
      have bad2 : x ∈ o.take i → segB o n = false := fun hx => segB_no (fun hs => not_nodup hoi (by rw [X.out]; exact hx) hs.2.2.2.2.2)
      have B0 := Lib.hid bad0
      have B1 := Lib.hid bad1
      have B2 := Lib.hid bad2
      clear bad0 bad1 bad2
      by_cases hx0 : x < 0
      · go_wp2_with fail
        go_ret
        exact ⟨ret_bool (B0.out (.inl hx0)).symm, U.out.b⟩
      by_cases hx1 : 16 ≤ x
      · go_wp2_with fail
        go_ret
        exact ⟨ret_bool (B0.out (.inr hx1)).symm, U.out.b⟩
      obtain ⟨j, rfl⟩ := Int.eq_ofNat_of_zero_le (by omega : 0 ≤ x)
      have hj : j < 16 := by omega
      have hji : (j : Int) < 16 := by omega
      have hu := U.out.c j hj
      have hf := U.out.f j hj
      clear hx0 hx1
      cases hd : decide ((j : Int) ∈ o.take i)
      case true =>
        rw [hd] at hu
        go_wp2_with fail
        go_ret
        exact ⟨ret_bool (B2.out (of_decide_eq_true hd)).symm, U.out.b⟩
      case false =>
        rw [hd] at hu
        have HD := Lib.hid (of_decide_eq_false hd)
        clear hd
        by_cases hy0 : y < 0
        · go_wp2_with fail
          go_ret
          exact ⟨ret_bool (B1.out (.inl hy0)).symm, U.out.b⟩
        by_cases hy1 : 30 < y
        · go_wp2_with fail
          go_ret
          exact ⟨ret_bool (B1.out (.inr hy1)).symm, U.out.b⟩
        go_wp2_with fail
        go_roundg (16 - (i + 1))
        case measure => have := HG.out; omega
        case rel => exact ⟨i + 1, by omega, rfl, by go_num, Lib.hid (U.out.next hoi hni hj X.out (by rw [Y.out]; omega) HD.out)⟩
    · obtain rfl : i = m := by omega
      have hlti : ¬ (i : Int) < (i : Int) := by omega
      go_wp2_with fail
      go_ret
      refine ⟨ret_bool ?_, U.out.b⟩
      symm
      have h1 := ho.out
      have h2 := hn.out
      have g := U.out.good
      rw [segB_iff]
      refine ⟨by omega, by omega, by omega, ?_, ?_, ?_⟩
      · intro x hx; exact g.po x (by rw [List.take_of_length_le (by omega)]; exact hx)
      · intro x hx; exact g.pn x (by rw [List.take_of_length_le (by omega)]; exact hx)
      · have := g.pd; rw [List.take_of_length_le (by omega)] at this; exact this

theorem seg_any (A : Option Addr) (m p : Nat) (B : Option Addr) (k q : Nat) (o n : List Int) (w : World) (hA : Sl w A m o) (hB : Sl w B k n) (hm : m ≤ maxLen) :
    Calls Try.prog 30 #[.slice A m p, .slice B k q] w fun e w' => e = .returned (.bool (segB o n)) ∧ Below w.heap.size w w' := by
  by_cases h : 1 ≤ m ∧ m ≤ 16 ∧ k = m
  · obtain ⟨h1, h2, rfl⟩ := h
    obtain ⟨ba, oa, rfl, hba, ca⟩ := hA.cells (by omega)
    obtain ⟨bb, ob, rfl, hbb, cb⟩ := hB.cells (by omega)
    exact seg_main ba oa k p bb ob q o n w h1 h2 (Lib.hid hA.len) (Lib.hid hB.len) hba hbb (Lib.hid ca) (Lib.hid cb)
  · have := hA.len
    have := hB.len
    rw [segB_no (fun hs => h (by omega))]
    exact seg_len A m p B k q w hm (by omega)

theorem seg_is (A : Option Addr) (m p : Nat) (B : Option Addr) (k q : Nat) (o n : List Int) (b : Bool) (w : World) (hA : Sl w A m o) (hB : Sl w B k n) (hm : m ≤ maxLen) (hb : segB o n = b) :
    Calls Try.prog 30 #[.slice A m p, .slice B k q] w fun e w' => e = .returned (.bool b) ∧ Below w.heap.size w w' := by
  subst hb; exact seg_any A m p B k q o n w hA hB hm

theorem right_zero (g e l v : Int) (A : Option Addr) (m p : Nat) (B : Option Addr) (k q : Nat) (w : World) (h : g = 0 ∨ (0 < g ∧ l = 0)) :
    Calls Try.prog 17 #[.agg #[.int .u64 g, .int .u32 e, .int .u64 l, .int .u64 v, .slice A m p, .slice B k q]] w fun e' w' => e' = .returned (.bool false) ∧ Below w.heap.size w w' := by
  rcases h with rfl | ⟨h, rfl⟩
  all_goals
    go_enter Try.func17, Try.ntmps17
    go_wp2_with fail
    go_ret
    exact ⟨rfl, (Below.refl _ _).alloc (Nat.le_refl _) _⟩

set_option maxHeartbeats 1000000 in
/-- Right: whether a checkpoint may be. -/
theorem right_is (g e l v : Int) (A : Option Addr) (m p : Nat) (B : Option Addr) (k q : Nat) (o n : List Int) (b : Bool) (w : World) (hA : Sl w A m o) (hB : Sl w B k n) (hm : m ≤ maxLen) (hg : 0 ≤ g) (hl : 0 ≤ l) (hb : okC ⟨g, e, l, v, o, n⟩ = b) :
    Calls Try.prog 17 #[.agg #[.int .u64 g, .int .u32 e, .int .u64 l, .int .u64 v, .slice A m p, .slice B k q]] w fun e' w' => e' = .returned (.bool b) ∧ Below w.heap.size w w' := by
  subst hb
  by_cases h : g = 0 ∨ l = 0
  · have he : okC ⟨g, e, l, v, o, n⟩ = false := by
      unfold okC
      rw [Bool.and_eq_false_iff, decide_eq_false_iff_not]
      left; simp only; omega
    rw [he]
    exact right_zero g e l v A m p B k q w (by omega)
  · have he : okC ⟨g, e, l, v, o, n⟩ = segB o n := by
      unfold okC
      rw [decide_eq_true (by simp only; omega), Bool.true_and]
    rw [he]
    have C := Lib.hid (seg_any A m p B k q o n (w.alloc (.cells #[.int .u64 g, .int .u32 e, .int .u64 l, .int .u64 v, .slice A m p, .slice B k q] 26)) (hA.later (below1 _ _)) (hB.later (below1 _ _)) hm)
    have hg : 0 < g := by omega
    have hl : 0 < l := by omega
    generalize segB o n = b at *
    clear h he
    go_enter Try.func17, Try.ntmps17
    go_wp2_with fail
    refine C.out.mono ?_
    rintro e' w' ⟨rfl, hb⟩
    go_wp2_with fail
    go_ret
    exact ⟨rfl, Wd.Ge.trans (below1 _ _) hb⟩

end Go.Proofs.Ytdnkhjikfdalbaa
