/- A part of the proofs of the statements about logs. -/
import Derived.Test.YtdpmjlbkojhooaaGreatPLwP
import Derived.Maps.AppendAt
import Derived.Deep.RegionLaw
import Derived.IntWalk
namespace Go.Proofs.YtdpmjlbkojhooaaGreat.Cp
open Go.RowKit Go.Lib
set_option linter.unusedVariables false
set_option maxRecDepth 100000
open Go.RowKit Go.Lib Wd Cr
set_option linter.unusedVariables false
structure Its (w : World) (L : List (Nat × Array Value)) (M : List (Option Addr × Nat × List Int)) (W : World) : Prop where
  b : Below w.heap.size w W
  k : ∀ x ∈ L, Blk W x.1 89 x.2
  s : ∀ y ∈ M, Sl W y.1 y.2.1 y.2.2
section
variable {w W W' : World} {L : List (Nat × Array Value)} {M : List (Option Addr × Nat × List Int)}
theorem Its.later (h : Its w L M W) (hb : Below W.heap.size W W') : Its w L M W' := ⟨Wd.Ge.trans h.b hb, fun x hx => (h.k x hx).later hb, fun y hy => (h.s y hy).later hb⟩
theorem Its.drawn (h : Its w L M W) : Its w L M { W with drawn := W.drawn + 1 } := h.later (below_drawn W)
theorem Its.at_ (h : Its w L M W) {x : Nat × Array Value} (i : Nat) (hi : L[i]? = some x) : Blk W x.1 89 x.2 := h.k x (List.mem_of_getElem? hi)
theorem Its.sl (h : Its w L M W) {y : Option Addr × Nat × List Int} (i : Nat) (hi : M[i]? = some y) : Sl W y.1 y.2.1 y.2.2 := h.s y (List.mem_of_getElem? hi)
theorem Its.nil (h : Below w.heap.size w W) : Its w [] [] W := ⟨h, (fun x hx => by cases hx), (fun y hy => by cases hy)⟩
theorem Its.cons (h : Its w L M W) {b : Nat} {cs : Array Value} (K : Blk W b 89 cs) : Its w ((b, cs) :: L) M W :=
  ⟨h.b, (fun x hx => by rcases List.mem_cons.1 hx with rfl | hx; exact K; exact h.k x hx), h.s⟩
end
open Go.RowKit Go.Lib Wd Cr
set_option linter.unusedVariables false
theorem nth_take {l : List Int} {i j : Nat} (h : j < i) : nth (l.take i) j = nth l j := by
  unfold nth
  rw [List.getD_eq_getElem?_getD, List.getD_eq_getElem?_getD, List.getElem?_take_of_lt h]
theorem nth_take_mem {l : List Int} {i j : Nat} (h : j < i) (hi : i ≤ l.length) : nth l j ∈ l.take i := by
  rw [← nth_take h]
  exact nth_mem (by rw [List.length_take]; omega)
theorem not_mem_take {l : List Int} {i : Nat} {x : Int} (h : ∀ t, t < i → nth l t ≠ x) : x ∉ l.take i := by
  intro hm
  obtain ⟨t, ht, e⟩ := List.mem_iff_getElem.1 hm
  rw [List.length_take] at ht
  refine h t (by omega) ?_
  rw [← nth_take (l := l) (i := i) (by omega)]
  unfold nth
  rw [List.getD_eq_getElem?_getD, List.getElem?_eq_getElem (by rw [List.length_take]; omega)]
  exact e
namespace R7
theorem right_early (g e l v : Int) (A : Option Addr) (m p : Nat) (B : Option Addr) (k q : Nat) (w : World) (hm : m ≤ maxLen) (h : g = 0 ∨ ((g == 0) = false ∧ l = 0) ∨ ((g == 0) = false ∧ (l == 0) = false ∧ m < 1) ∨ ((g == 0) = false ∧ (l == 0) = false ∧ 16 < m) ∨ ((g == 0) = false ∧ (l == 0) = false ∧ 1 ≤ m ∧ m ≤ 16 ∧ k ≠ m)) :
    Calls Tryz.prog 39 #[.agg #[.int .u64 g, .int .u32 e, .int .u64 l, .int .u64 v, .slice A m p, .slice B k q]] w fun e' w' => e' = .returned (.bool false) ∧ Below w.heap.size w w' := by
  rcases h with rfl | ⟨h1, rfl⟩ | ⟨h1, h2, h3⟩ | ⟨h1, h2, h3⟩ | ⟨h1, h2, h3, h4, h5⟩
  · go_enter Tryz.func39, Tryz.ntmps39
    go_wp2_with fail
    go_ret
    exact ⟨rfl, below1 _ _⟩
  · go_enter Tryz.func39, Tryz.ntmps39
    go_wp2_with fail
    go_ret
    exact ⟨rfl, below1 _ _⟩
  · obtain rfl : m = 0 := by omega
    go_enter Tryz.func39, Tryz.ntmps39
    go_wp2_with fail
    go_ret
    exact ⟨rfl, below1 _ _⟩
  · have q1 : (16 : Int) < (m : Int) := by omega
    have q2 : ¬ (m : Int) < 1 := by omega
    go_enter Tryz.func39, Tryz.ntmps39
    go_wp2_with fail
    go_ret
    exact ⟨rfl, below1 _ _⟩
  · have q1 : ¬ (16 : Int) < (m : Int) := by omega
    have q2 : ¬ (m : Int) < 1 := by omega
    have q3 : ((k : Int) != (m : Int)) = true := by simp; omega
    go_enter Tryz.func39, Tryz.ntmps39
    go_wp2_with fail
    go_ret
    exact ⟨rfl, below1 _ _⟩
set_option maxRecDepth 100000 in
set_option maxHeartbeats 8000000 in
theorem right_main (g e l v : Int) (ba oa m p bb ob q : Nat) (o n : List Int) (w : World) (hg : (g == 0) = false) (hl : (l == 0) = false) (hm1 : 1 ≤ m) (hm2 : m ≤ 16) (hA : Hid (Sl w (some ⟨ba, oa, none⟩) m o)) (hB : Hid (Sl w (some ⟨bb, ob, none⟩) m n)) (hba : ba < w.heap.size) (hbb : bb < w.heap.size)
    (CA : Hid (∀ j, j < m → w.cell? ⟨ba, oa + j, none⟩ = some (.int .i64 (nth o j)))) (CB : Hid (∀ j, j < m → w.cell? ⟨bb, ob + j, none⟩ = some (.int .i64 (nth n j)))) :
    Calls Tryz.prog 39 #[.agg #[.int .u64 g, .int .u32 e, .int .u64 l, .int .u64 v, .slice (some ⟨ba, oa, none⟩) m p, .slice (some ⟨bb, ob, none⟩) m q]] w fun e' w' => e' = .returned (.bool (segB o n)) ∧ Below w.heap.size w w' := by
  have q1 : ¬ (16 : Int) < (m : Int) := by omega
  have q2 : ¬ (m : Int) < 1 := by omega
  have q3 : ((m : Int) != (m : Int)) = false := by simp
  have ho := Lib.hid hA.out.len
  have hn := Lib.hid hB.out.len
  have h0 := Lib.hid (inv0 g e l v (some ⟨ba, oa, none⟩) m p (some ⟨bb, ob, none⟩) m q 94 w hA.out hB.out)
  go_enter Tryz.func39, Tryz.ntmps39
  go_wp2_with fail
  go_loopg [4] 16 (fun gk s4 wr => ∃ i : Nat, i ≤ m ∧ gk = 16 - i ∧ s4 = .int .i64 i ∧ Hid (InvC w w.heap.size g e l v (some ⟨ba, oa, none⟩) m p (some ⟨bb, ob, none⟩) m q o n wr) ∧ Hid (Good o n i))
  case atStart => exact ⟨0, by omega, rfl, rfl, h0, Lib.hid ⟨by simp, by simp, by simp⟩⟩
  case round =>
    obtain ⟨i, hi, hgk, rfl, II, GG⟩ := hrel
    have HG := Lib.hid hgk
    clear hgk
    have c4 := II.out.L.c4
    have c5 := II.out.L.c5
    by_cases hlt : i < m
    · have hlti : (i : Int) < (m : Int) := by omega
      have ha := ((bcell II.out.b).1 ba (oa + i) hba).trans (CA.out i hlt)
      have hb := ((bcell II.out.b).1 bb (ob + i) hbb).trans (CB.out i hlt)
      have hoi : i < o.length := by have := ho.out; omega
      have hni : i < n.length := by have := hn.out; omega
      obtain ⟨x, X⟩ : ∃ x, Hid (nth o i = x) := ⟨_, rfl⟩
      obtain ⟨y, Y⟩ : ∃ y, Hid (nth n i = y) := ⟨_, rfl⟩
      rw [X.out] at ha
      rw [Y.out] at hb
      have B0 : Hid ((x < 0 ∨ 15 < x) → segB o n = false) := Lib.hid (fun hx => segB_no (fun hs => by
        have := hs.2.2.2.1 _ (nth_mem hoi)
        rw [X.out] at this
        omega))
      have B1 : Hid ((y < 0 ∨ 30 < y) → segB o n = false) := Lib.hid (fun hx => segB_no (fun hs => by
        have := hs.2.2.2.2.1 _ (nth_mem hni)
        rw [Y.out] at this
        omega))
      have B2 : Hid (∀ j, j < i → nth o j = x → segB o n = false) := Lib.hid (fun j hj hx => segB_no (fun hs => not_nodup hoi (by rw [X.out, ← hx]; exact nth_take_mem hj (by omega)) hs.2.2.2.2.2))
      by_cases hx0 : x < 0
      · go_wp2_with fail
        go_ret
        exact ⟨ret_bool (B0.out (.inl hx0)).symm, II.out.b⟩
      by_cases hx1 : 15 < x
      · go_wp2_with fail
        go_ret
        exact ⟨ret_bool (B0.out (.inr hx1)).symm, II.out.b⟩
      by_cases hy0 : y < 0
      · go_wp2_with fail
        go_ret
        exact ⟨ret_bool (B1.out (.inl hy0)).symm, II.out.b⟩
      by_cases hy1 : 30 < y
      · go_wp2_with fail
        go_ret
        exact ⟨ret_bool (B1.out (.inr hy1)).symm, II.out.b⟩
      go_wp2_with fail
      go_loopg [5] 16 (fun gk2 s5 wx => ∃ j : Nat, j ≤ i ∧ gk2 = 16 - j ∧ s5 = .int .i64 j ∧ Hid (InvC w w.heap.size g e l v (some ⟨ba, oa, none⟩) m p (some ⟨bb, ob, none⟩) m q o n wx) ∧ Hid (∀ t, t < j → nth o t ≠ x))
      case atStart => exact ⟨0, by omega, rfl, rfl, II, Lib.hid (fun t ht => by omega)⟩
      case round =>
        obtain ⟨j, hj, hgk2, rfl, JJ, NN⟩ := hrel
        have HG2 := Lib.hid hgk2
        clear hgk2 c4 c5 ha hb
        have c4 := JJ.out.L.c4
        by_cases hjl : j < i
        · have hjli : (j : Int) < (i : Int) := by omega
          have hjm : (j : Int) < (m : Int) := by omega
          have ha := ((bcell JJ.out.b).1 ba (oa + i) hba).trans (CA.out i hlt)
          have hz := ((bcell JJ.out.b).1 ba (oa + j) hba).trans (CA.out j (by omega))
          obtain ⟨z, Z⟩ : ∃ z, Hid (nth o j = z) := ⟨_, rfl⟩
          rw [X.out] at ha
          rw [Z.out] at hz
          by_cases hzx : z = x
          · have HS := Lib.hid (B2.out j hjl (by rw [Z.out, hzx]))
            have hq : (z == x) = true := by simp [hzx]
            have HD := Lib.hid JJ.out.drawn
            clear hzx
            go_wp2_with fail
            go_region
            go_wp2_with fail
            go_ret
            exact ⟨ret_bool HS.out.symm, HD.out.b⟩
          · have hq : (z == x) = false := by simp [hzx]
            have HD := Lib.hid JJ.out.drawn
            have N2 : Hid (∀ t, t < j + 1 → nth o t ≠ x) := Lib.hid (fun t ht => by
              by_cases e : t = j
              · subst e; rw [Z.out]; exact hzx
              · exact NN.out t (by omega))
            clear hzx
            go_wp2_with fail
            go_region
            go_wp2_with fail
            go_roundg (16 - (j + 1))
            case measure => have := HG2.out; omega
            case rel => exact ⟨j + 1, by omega, rfl, by go_num, HD, N2⟩
        · obtain rfl : j = i := by omega
          have hjli : ¬ (j : Int) < (j : Int) := by omega
          have G2 := Lib.hid (GG.out.next hoi hni (by rw [X.out]; omega) (by rw [Y.out]; omega) (by rw [X.out]; exact not_mem_take NN.out))
          clear hjl
          go_wp2_with fail
          go_roundg (16 - (j + 1))
          case measure => have := HG.out; omega
          case rel => exact ⟨j + 1, by omega, rfl, by go_num, JJ, G2⟩
    · obtain rfl : i = m := by omega
      have hlti : ¬ (i : Int) < (i : Int) := by omega
      go_wp2_with fail
      go_ret
      refine ⟨ret_bool ?_, II.out.b⟩
      symm
      have h1 := ho.out
      have h2 := hn.out
      have g := GG.out
      rw [segB_iff]
      refine ⟨by omega, by omega, by omega, ?_, ?_, ?_⟩
      · intro x hx; exact g.po x (by rw [List.take_of_length_le (by omega)]; exact hx)
      · intro x hx; exact g.pn x (by rw [List.take_of_length_le (by omega)]; exact hx)
      · have := g.pd; rw [List.take_of_length_le (by omega)] at this; exact this
theorem right_is (g e l v : Int) (A : Option Addr) (m p : Nat) (B : Option Addr) (k q : Nat) (o n : List Int) (b : Bool) (w : World) (hA : Sl w A m o) (hB : Sl w B k n) (hm : m ≤ maxLen) (hg : 0 ≤ g) (hl : 0 ≤ l) (hb : okC ⟨g, e, l, v, o, n⟩ = b) :
    Calls Tryz.prog 39 #[.agg #[.int .u64 g, .int .u32 e, .int .u64 l, .int .u64 v, .slice A m p, .slice B k q]] w fun e' w' => e' = .returned (.bool b) ∧ Below w.heap.size w w' := by
  subst hb
  by_cases h : g ≠ 0 ∧ l ≠ 0 ∧ 1 ≤ m ∧ m ≤ 16 ∧ k = m
  · obtain ⟨h1, h2, h3, h4, rfl⟩ := h
    have he : okC ⟨g, e, l, v, o, n⟩ = segB o n := by
      unfold okC
      rw [decide_eq_true (by simp only; exact ⟨h1, h2⟩), Bool.true_and]
    rw [he]
    obtain ⟨ba, oa, rfl, hba, ca⟩ := hA.cells (by omega)
    obtain ⟨bb, ob, rfl, hbb, cb⟩ := hB.cells (by omega)
    exact right_main g e l v ba oa k p bb ob q o n w (by simp [h1]) (by simp [h2]) h3 h4 (Lib.hid hA) (Lib.hid hB) hba hbb (Lib.hid ca) (Lib.hid cb)
  · have he : okC ⟨g, e, l, v, o, n⟩ = false := by
      have h1 := hA.len
      have h2 := hB.len
      cases hq : okC ⟨g, e, l, v, o, n⟩
      · rfl
      · exfalso
        obtain ⟨p1, p2⟩ := (okC_iff _).1 hq
        have p3 := okC_o hq
        simp only at p1 p3
        exact h ⟨p1.1, p1.2, by omega, by omega, by omega⟩
    rw [he]
    refine right_early g e l v A m p B k q w hm ?_
    by_cases h1 : g = 0
    · exact .inl h1
    by_cases h2 : l = 0
    · exact .inr (.inl ⟨by simp [h1], h2⟩)
    by_cases h3 : m < 1
    · exact .inr (.inr (.inl ⟨by simp [h1], by simp [h2], h3⟩))
    by_cases h4 : 16 < m
    · exact .inr (.inr (.inr (.inl ⟨by simp [h1], by simp [h2], h4⟩)))
    exact .inr (.inr (.inr (.inr ⟨by simp [h1], by simp [h2], by omega, by omega, fun e => h ⟨h1, h2, by omega, by omega, e⟩⟩)))
end R7
open Go.RowKit Go.Lib Wd Cr
set_option linter.unusedVariables false
namespace R7
end R7
open Go.RowKit Go.Lib Wd Cr
set_option linter.unusedVariables false
def iv (l : List Int) : List Value := l.map fun x => .int .i64 x
structure D7 (w : World) (bc : Nat) (g e a v : Int) (A : Option Addr) (p : Nat) (B : Option Addr) (q i j : Nat) (lo ln : List Int) (W : World) : Prop where
  b : Below w.heap.size w W
  z : Blk W w.heap.size 94 (csC 0 0 0 0 none 0 0 none 0 0)
  hbc : w.heap.size < bc
  k : Blk W bc 94 (csC g e a v A i p B j q)
  oo : W.ownsRow (bc + 1) 3 1 (.slice A i p) i (iv lo)
  on : W.ownsRow (bc + 1) 3 1 (.slice B j q) j (iv ln)
  ne : ∀ r, (Value.slice A i p).ownBlock = some r → (Value.slice B j q).ownBlock ≠ some r
structure D3 (w : World) (H : Nat) (vs : Array Value) (listed : Array Bool) (a : Act) (W : World) : Prop where
  b : Below w.heap.size w W
  z : Blk W w.heap.size 94 (csC 0 0 0 0 none 0 0 none 0 0)
  hH : H ≤ W.heap.size
  ord : listed.getD 15 false = true → listed.getD 14 false = true
  blk : listed.getD 14 false = true → ∃ b, a.tmps.getD 4 undef = .pointer (some ⟨b, 0, none⟩) ∧ H ≤ b ∧ Blk W b 94 (if listed.getD 15 false = true then vs else csC 0 0 0 0 none 0 0 none 0 0)
section
variable {w : World} {H : Nat} {vs : Array Value} {listed : Array Bool} {a : Act} {W W' : World}
theorem D3.step (h : D3 w H vs listed a W) (i d : Nat) (v : Value) (hi : i ≠ 14) (hi' : i ≠ 15) (hd : d ≠ 4) (hb : Below W.heap.size W W') : D3 w H vs (listed.setIfInBounds i true) (a.put (some d) v) W' := by
  have e20 : (listed.setIfInBounds i true).getD 14 false = listed.getD 14 false := getD_set_ne false hi
  have e21 : (listed.setIfInBounds i true).getD 15 false = listed.getD 15 false := getD_set_ne false hi'
  refine ⟨Wd.Ge.trans h.b hb, h.z.later hb, Nat.le_trans h.hH hb.size, by rw [e20, e21]; exact h.ord, ?_⟩
  rw [e20, e21]
  intro hl
  obtain ⟨b, h1, h2, h3⟩ := h.blk hl
  exact ⟨b, (Free.slot_ne v hd).trans h1, h2, h3.later hb⟩
theorem D3.alloc (h : D3 w H vs listed a W) (hsz : listed.size = 16) (ha : 4 < a.tmps.size) (hno : listed.getD 14 true = false) : D3 w H vs (listed.setIfInBounds 14 true) (a.put (some 4) (.pointer (some ⟨W.heap.size, 0, none⟩))) (W.alloc (.cells (csC 0 0 0 0 none 0 0 none 0 0) 94)) := by
  have e21 : (listed.setIfInBounds 14 true).getD 15 false = listed.getD 15 false := getD_set_ne false (by omega)
  have e20 : (listed.setIfInBounds 14 true).getD 14 false = true := by simp [hsz]
  have f20 : listed.getD 14 false = false := by
    simp only [Array.getD_eq_getD_getElem?] at hno ⊢
    have : listed[14]? = some (listed[14]'(by omega)) := Array.getElem?_eq_getElem (by omega)
    rw [this] at hno ⊢
    exact hno
  have f21 : ¬ listed.getD 15 false = true := fun hh => by have := h.ord hh; rw [f20] at this; exact absurd this (by decide)
  have hb := below1 W (.cells (csC 0 0 0 0 none 0 0 none 0 0) 94)
  refine ⟨Wd.Ge.trans h.b hb, h.z.later hb, Nat.le_trans h.hH hb.size, fun _ => e20, fun _ => ⟨W.heap.size, ?_, h.hH, ?_⟩⟩
  · unfold Act.put
    simp [ha]
  · rw [e21, if_neg f21]
    exact Blk.new _ _ _
theorem D3.store (h : D3 w H vs listed a W) (hsz : listed.size = 16) (hl : listed.getD 14 false = true) (q1 : w.heap.size < H) {b : Nat} (hs : a.tmps.getD 4 undef = .pointer (some ⟨b, 0, none⟩)) :
    D3 w H vs (listed.setIfInBounds 15 true) (a.put none undef) (W.setRow b vs) := by
  obtain ⟨b', h1, h2, h3⟩ := h.blk hl
  have eb : b' = b := by rw [hs] at h1; injection h1 with h1; injection h1 with h1; injection h1 with h1; exact h1.symm
  subst eb
  have e21 : (listed.setIfInBounds 15 true).getD 15 false = true := by simp [hsz]
  have e20 : (listed.setIfInBounds 15 true).getD 14 false = listed.getD 14 false := getD_set_ne false (by omega)
  refine ⟨below_row h.b (by omega) _, h.z.far (by omega) _, by rw [row_size]; exact h.hH, fun _ => by rw [e20]; exact hl, fun _ => ⟨b', hs, h2, ?_⟩⟩
  rw [e21, if_pos rfl]
  exact h3.row _
end
namespace R7
end R7
open Go.RowKit Go.Lib Wd Cr
set_option linter.unusedVariables false
namespace R7
end R7
end Go.Proofs.YtdpmjlbkojhooaaGreat.Cp
