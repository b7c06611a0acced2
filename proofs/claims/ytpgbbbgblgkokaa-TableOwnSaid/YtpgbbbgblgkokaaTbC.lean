/- Contracts of the document's own In and Right, of Used and Len of both sides, and of table's Room; no memory that was there is changed. -/
import Derived.Test.YtpgbbbgblgkokaaTbB
namespace Go.Proofs.Ytpgbbbgblgkokaa
open Go.RowKit Go.Lib
set_option linter.unusedVariables false

/-- All old memory as it was; blocks' cells; slices that read as lists. -/
structure Its (w : World) (L : List (Nat × TypeId × Array Value)) (M : List (IntKind × Option Addr × Nat × List Int)) (W : World) : Prop where
  b : Below w.heap.size w W
  k : ∀ x ∈ L, Blk W x.1 x.2.1 x.2.2
  s : ∀ y ∈ M, Sl y.1 W y.2.1 y.2.2.1 y.2.2.2
section
variable {w W W' : World} {L : List (Nat × TypeId × Array Value)} {M : List (IntKind × Option Addr × Nat × List Int)}
theorem Its.later (h : Its w L M W) (hb : Below W.heap.size W W') : Its w L M W' := ⟨Ge.trans h.b hb, fun x hx => (h.k x hx).later hb, fun y hy => (h.s y hy).later hb⟩
theorem Its.drawn (h : Its w L M W) : Its w L M { W with drawn := W.drawn + 1 } := h.later (below_drawn W)
theorem Its.at_ (h : Its w L M W) {x : Nat × TypeId × Array Value} (i : Nat) (hi : L[i]? = some x) : Blk W x.1 x.2.1 x.2.2 := h.k x (List.mem_of_getElem? hi)
theorem Its.sl (h : Its w L M W) {y : IntKind × Option Addr × Nat × List Int} (i : Nat) (hi : M[i]? = some y) : Sl y.1 W y.2.1 y.2.2.1 y.2.2.2 := h.s y (List.mem_of_getElem? hi)
theorem Its.nil (h : Below w.heap.size w W) : Its w [] [] W := ⟨h, (fun x hx => by cases hx), (fun y hy => by cases hy)⟩
theorem Its.cons (h : Its w L M W) {b : Nat} {t : TypeId} {cs : Array Value} (K : Blk W b t cs) : Its w ((b, t, cs) :: L) M W :=
  ⟨h.b, (fun x hx => by rcases List.mem_cons.1 hx with rfl | hx; exact K; exact h.k x hx), h.s⟩
theorem Its.scons (h : Its w L M W) {κ : IntKind} {A : Option Addr} {m : Nat} {o : List Int} (K : Sl κ W A m o) : Its w L ((κ, A, m, o) :: M) W :=
  ⟨h.b, h.k, fun x hx => by rcases List.mem_cons.1 hx with rfl | hx; exact K; exact h.s x hx⟩
theorem Its.tcons (h : Its w L M W) {A : Option Addr} {m : Nat} {B : Option Addr} {k : Nat} {C : Option Addr} {n : Nat} {o l f : List Int} (K : TIn W A m B k C n o l f) :
    Its w L ((.i64, A, m, o) :: (.i64, B, k, l) :: (.u64, C, n, f) :: M) W := ((h.scons K.c).scons K.b).scons K.a
theorem Its.tab (h : Its w L M W) {A : Option Addr} {m : Nat} {B : Option Addr} {k : Nat} {C : Option Addr} {n : Nat} {o l f : List Int} (i : Nat)
    (h0 : M[i]? = some (.i64, A, m, o)) (h1 : M[i + 1]? = some (.i64, B, k, l)) (h2 : M[i + 2]? = some (.u64, C, n, f)) : TIn W A m B k C n o l f := ⟨h.sl i h0, h.sl (i + 1) h1, h.sl (i + 2) h2⟩
theorem its_ge {P : Program} {f : FuncId} {args : Array Value} {x : Value} (h : Its w L M W) (c : Calls P f args W fun e' w' => e' = .returned x ∧ Below W.heap.size W w') :
    Calls P f args W fun e' w' => e' = .returned x ∧ Its w L M w' :=
  c.mono fun _ _ ⟨he, hb⟩ => ⟨he, h.later hb⟩
end

set_option maxHeartbeats 1000000 in
theorem in_is (sg st : Int) (A : Option Addr) (m p : Nat) (B : Option Addr) (k q : Nat) (C : Option Addr) (n r : Nat) (o l f : List Int) (x y : Int) (w : World) (h : TIn w A m B k C n o l f) (hm : m ≤ maxLen) (hy : idx o x = y) :
    Calls Try.prog 37 #[.agg #[.int .i64 sg, .int .i64 st, .slice A m p, .slice B k q, .slice C n r], .int .i64 x] w fun e w' => e = .returned (.int .i64 y) ∧ Below w.heap.size w w' := by
  unfold maxLen at hm
  have HB := Lib.hid (below1 w (.cells #[.int .i64 sg, .int .i64 st, .slice A m p, .slice B k q, .slice C n r] 32))
  have HL := Lib.hid h.a.len
  have HY := Lib.hid hy
  clear hy
  by_cases hz : m = 0
  · subst hz
    have h1 := List.length_eq_zero_iff.1 h.a.len.symm
    subst h1
    obtain rfl : y = -1 := by rw [← HY.out, idx_no (by simp)]
    go_enter Try.func37, Try.ntmps37
    go_wp2_with fail
    refine wp_loop_rounds 1 ?_
    rw [rounds_succ]
    go_wp2_with fail
    go_ret
    exact ⟨rfl, HB.out⟩
  obtain ⟨b, off, rfl, hb, hc⟩ := (h.a.later (below1 w (.cells #[.int .i64 sg, .int .i64 st, .slice A m p, .slice B k q, .slice C n r] 32))).cells (by omega)
  have HC := Lib.hid hc
  clear hc h
  go_enter Try.func37, Try.ntmps37
  go_wp2_with fail
  go_loop [5] (fun s5 => ∃ i : Nat, i ≤ m ∧ s5 = .int .i64 i ∧ Hid (x ∉ o.take i)) (fun s5 => m - (intOf s5).toNat)
  case atStart => exact ⟨0, by omega, rfl, Lib.hid (by simp)⟩
  case round =>
    obtain ⟨i, hi, rfl, HN⟩ := hrel
    by_cases hlt : i < m
    · have hlti : (i : Int) < (m : Int) := by omega
      have hil : i < o.length := by have := HL.out; omega
      have c1 := HC.out i hlt
      obtain ⟨z, Y⟩ : ∃ z, Hid (nth o i = z) := ⟨_, rfl⟩
      simp only [Y.out] at c1
      by_cases hxy : z = x
      · have HD : Hid ((i : Int) = y) := Lib.hid ((idx_at hil (Y.out.trans hxy) HN.out).symm.trans HY.out)
        have hq : (z == x) = true := by simp [hxy]
        clear hxy
        go_wp2_with fail
        go_ret
        exact ⟨ret_int HD.out, HB.out⟩
      · have HN2 : Hid (x ∉ o.take (i + 1)) := Lib.hid (by rw [take_nth hil, Y.out]; simp; exact ⟨HN.out, fun e => hxy e.symm⟩)
        have hq : (z == x) = false := by simp [hxy]
        clear hxy
        go_wp2_with fail
        go_round
        case rel => exact ⟨i + 1, by omega, by go_num, HN2⟩
        case measure => simp [intOf]; omega
    · obtain rfl : i = m := by omega
      have hlti : ¬ (i : Int) < (i : Int) := by omega
      have HD : Hid (-1 = y) := Lib.hid ((idx_no (by have := HN.out; rw [List.take_of_length_le (by have := HL.out; omega)] at this; exact this)).symm.trans HY.out)
      go_wp2_with fail
      go_ret
      exact ⟨ret_int HD.out, HB.out⟩

theorem len_is (sg st : Int) (A : Option Addr) (m p : Nat) (B : Option Addr) (k q : Nat) (C : Option Addr) (n r : Nat) (o l f : List Int) (x y : Int) (w : World) (h : TIn w A m B k C n o l f) (hm : m ≤ maxLen) (hk : l.length = o.length) (hy : lenT ⟨sg, st, o, l, f⟩ x = y) :
    Calls Try.prog 23 #[.agg #[.int .i64 sg, .int .i64 st, .slice A m p, .slice B k q, .slice C n r], .int .i64 x] w fun e w' => e = .returned (.int .i64 y) ∧ Below w.heap.size w w' := by
  have HB := Lib.hid (below1 w (.cells #[.int .i64 sg, .int .i64 st, .slice A m p, .slice B k q, .slice C n r] 28))
  have h1 := h.later (below1 w (.cells #[.int .i64 sg, .int .i64 st, .slice A m p, .slice B k q, .slice C n r] 28))
  obtain ⟨i, HI⟩ : ∃ i, Hid (idx o x = i) := ⟨_, Lib.hid rfl⟩
  have K := Lib.hid (index_is A m p o x i _ h1.a hm HI.out)
  unfold lenT at hy
  simp only [HI.out] at hy
  have hlt := idx_lt (l := o) (x := x)
  rw [HI.out] at hlt
  by_cases hi : i < 0
  · rw [if_pos hi] at hy
    obtain rfl : 0 = y := hy
    clear hlt hk h1 h
    go_enter Try.func23, Try.ntmps23
    go_wp2_with fail
    refine K.out.mono ?_
    rintro e w' ⟨rfl, rfl⟩
    go_wp2_with fail
    go_ret
    exact ⟨rfl, HB.out⟩
  · rw [if_neg hi] at hy
    obtain ⟨j, rfl⟩ := Int.eq_ofNat_of_zero_le (by omega : 0 ≤ i)
    obtain ⟨b, off, rfl, hb, hc⟩ := h1.b.cells (by have := h.b.len; omega)
    have hj : j < k := by have := h.b.len; omega
    have hji : (j : Int) < (k : Int) := by omega
    have c1 := hc j hj
    have e1 : nth l j = y := by simpa using hy
    simp only [e1] at c1
    clear hy hlt hk h1 h hc e1
    go_enter Try.func23, Try.ntmps23
    go_wp2_with fail
    refine K.out.mono ?_
    rintro e w' ⟨rfl, rfl⟩
    go_wp2_with fail
    go_ret
    exact ⟨rfl, HB.out⟩

/-- A list whose sums stay. -/
structure Small (l : List Int) : Prop where
  len : l.length ≤ 20
  lo : ∀ x ∈ l, 0 ≤ x ∧ x ≤ 30
theorem sum_bd {l : List Int} (h : Small l) : ∀ i, i ≤ l.length → 0 ≤ sumTo l i ∧ sumTo l i ≤ 30 * i
  | 0, _ => ⟨by rw [sumTo_zero]; omega, by rw [sumTo_zero]; omega⟩
  | i + 1, hi => by
    have := sum_bd h i (by omega)
    have h2 := h.lo _ (nth_mem (l := l) (i := i) (by omega))
    rw [sumTo_succ (by omega)]
    omega

set_option maxHeartbeats 1000000 in
theorem used_is (sg st : Int) (A : Option Addr) (m p : Nat) (B : Option Addr) (k q : Nat) (C : Option Addr) (n r : Nat) (o l f : List Int) (y : Int) (w : World) (h : TIn w A m B k C n o l f) (hs : Small l) (hy : usedT ⟨sg, st, o, l, f⟩ = y) :
    Calls Try.prog 21 #[.agg #[.int .i64 sg, .int .i64 st, .slice A m p, .slice B k q, .slice C n r]] w fun e w' => e = .returned (.int .i64 y) ∧ Below w.heap.size w w' := by
  have HB := Lib.hid (below1 w (.cells #[.int .i64 sg, .int .i64 st, .slice A m p, .slice B k q, .slice C n r] 28))
  have HL := Lib.hid h.b.len
  have HY : Hid (sumTo l l.length = y) := Lib.hid hy
  have HS := Lib.hid hs
  have hk : k ≤ 20 := by have := h.b.len; have := hs.len; omega
  clear hy
  by_cases hz : k = 0
  · subst hz
    have h1 := List.length_eq_zero_iff.1 h.b.len.symm
    subst h1
    obtain rfl : 0 = y := HY.out
    go_enter Try.func21, Try.ntmps21
    go_wp2_with fail
    refine wp_loop_rounds 1 ?_
    rw [rounds_succ]
    go_wp2_with fail
    go_ret
    exact ⟨rfl, HB.out⟩
  obtain ⟨b, off, rfl, hb, hc⟩ := (h.b.later (below1 w (.cells #[.int .i64 sg, .int .i64 st, .slice A m p, .slice B k q, .slice C n r] 28))).cells (by omega)
  have HC := Lib.hid hc
  clear hc h hs
  go_enter Try.func21, Try.ntmps21
  go_wp2_with fail
  go_loop [3, 9] (fun s3 s9 => ∃ i : Nat, ∃ z : Int, i ≤ k ∧ s9 = .int .i64 i ∧ s3 = .int .i64 z ∧ Hid (sumTo l i = z)) (fun _ s9 => k - (intOf s9).toNat)
  case atStart => exact ⟨0, 0, by omega, rfl, rfl, Lib.hid rfl⟩
  case round =>
    obtain ⟨i, z, hi, rfl, rfl, HZ⟩ := hrel
    have bd := sum_bd HS.out i (by have := HL.out; omega)
    rw [HZ.out] at bd
    by_cases hlt : i < k
    · have hlti : (i : Int) < (k : Int) := by omega
      have hil : i < l.length := by have := HL.out; omega
      have c1 := HC.out i hlt
      have bx := HS.out.lo _ (nth_mem hil)
      obtain ⟨x, Y⟩ : ∃ x, Hid (nth l i = x) := ⟨_, rfl⟩
      simp only [Y.out] at c1 bx
      have HZ2 : Hid (sumTo l (i + 1) = z + x) := Lib.hid (by rw [sumTo_succ hil, HZ.out, Y.out])
      have b0 : 0 ≤ z := bd.1
      have b1 : z ≤ 600 := by omega
      have b2 : 0 ≤ x := bx.1
      have b3 : x ≤ 30 := bx.2
      clear bd bx
      go_wp2_with fail
      go_round
      case rel => exact ⟨i + 1, z + x, by omega, by go_num, by go_num, HZ2⟩
      case measure => simp [intOf]; omega
    · obtain rfl : i = k := by omega
      have hlti : ¬ (i : Int) < (i : Int) := by omega
      have HD : Hid (z = y) := Lib.hid (by rw [← HZ.out, ← HY.out, HL.out])
      clear bd
      go_wp2_with fail
      go_ret
      exact ⟨ret_int HD.out, HB.out⟩

set_option maxHeartbeats 1000000 in
theorem rused_is (sg st : Int) (A : Option Addr) (m p : Nat) (B : Option Addr) (k q : Nat) (C : Option Addr) (n r : Nat) (o l f : List Int) (y : Int) (w : World) (h : TIn w A m B k C n o l f) (hs : Small l) (hy : usedT ⟨sg, st, o, l, f⟩ = y) :
    Calls Try.prog 22 #[.agg #[.int .i64 sg, .int .i64 st, .slice A m p, .slice B k q, .slice C n r]] w fun e w' => e = .returned (.int .i64 y) ∧ Below w.heap.size w w' := by
  have HB := Lib.hid (below1 w (.cells #[.int .i64 sg, .int .i64 st, .slice A m p, .slice B k q, .slice C n r] 32))
  have HL := Lib.hid h.b.len
  have HY : Hid (sumTo l l.length = y) := Lib.hid hy
  have HS := Lib.hid hs
  have hk : k ≤ 20 := by have := h.b.len; have := hs.len; omega
  clear hy
  by_cases hz : k = 0
  · subst hz
    have h1 := List.length_eq_zero_iff.1 h.b.len.symm
    subst h1
    obtain rfl : 0 = y := HY.out
    go_enter Try.func22, Try.ntmps22
    go_wp2_with fail
    refine wp_loop_rounds 1 ?_
    rw [rounds_succ]
    go_wp2_with fail
    go_ret
    exact ⟨rfl, HB.out⟩
  obtain ⟨b, off, rfl, hb, hc⟩ := (h.b.later (below1 w (.cells #[.int .i64 sg, .int .i64 st, .slice A m p, .slice B k q, .slice C n r] 32))).cells (by omega)
  have HC := Lib.hid hc
  clear hc h hs
  go_enter Try.func22, Try.ntmps22
  go_wp2_with fail
  go_loop [3, 4] (fun s3 s4 => ∃ i : Nat, ∃ z : Int, i ≤ k ∧ s4 = .int .i64 i ∧ s3 = .int .i64 z ∧ Hid (sumTo l i = z)) (fun _ s4 => k - (intOf s4).toNat)
  case atStart => exact ⟨0, 0, by omega, rfl, rfl, Lib.hid rfl⟩
  case round =>
    obtain ⟨i, z, hi, rfl, rfl, HZ⟩ := hrel
    have bd := sum_bd HS.out i (by have := HL.out; omega)
    rw [HZ.out] at bd
    by_cases hlt : i < k
    · have hlti : (i : Int) < (k : Int) := by omega
      have hil : i < l.length := by have := HL.out; omega
      have c1 := HC.out i hlt
      have bx := HS.out.lo _ (nth_mem hil)
      obtain ⟨x, Y⟩ : ∃ x, Hid (nth l i = x) := ⟨_, rfl⟩
      simp only [Y.out] at c1 bx
      have HZ2 : Hid (sumTo l (i + 1) = z + x) := Lib.hid (by rw [sumTo_succ hil, HZ.out, Y.out])
      have b0 : 0 ≤ z := bd.1
      have b1 : z ≤ 600 := by omega
      have b2 : 0 ≤ x := bx.1
      have b3 : x ≤ 30 := bx.2
      clear bd bx
      go_wp2_with fail
      go_round
      case rel => exact ⟨i + 1, z + x, by omega, by go_num, by go_num, HZ2⟩
      case measure => simp [intOf]; omega
    · obtain rfl : i = k := by omega
      have hlti : ¬ (i : Int) < (i : Int) := by omega
      have HD : Hid (z = y) := Lib.hid (by rw [← HZ.out, ← HY.out, HL.out])
      clear bd
      go_wp2_with fail
      go_ret
      exact ⟨ret_int HD.out, HB.out⟩

theorem rlen_is (sg st : Int) (A : Option Addr) (m p : Nat) (B : Option Addr) (k q : Nat) (C : Option Addr) (n r : Nat) (o l f : List Int) (x y : Int) (w : World) (h : TIn w A m B k C n o l f) (hm : m ≤ maxLen) (hk : l.length = o.length) (hy : lenT ⟨sg, st, o, l, f⟩ x = y) :
    Calls Try.prog 24 #[.agg #[.int .i64 sg, .int .i64 st, .slice A m p, .slice B k q, .slice C n r], .int .i64 x] w fun e w' => e = .returned (.int .i64 y) ∧ Below w.heap.size w w' := by
  have hB := below1 w (.cells #[.int .i64 sg, .int .i64 st, .slice A m p, .slice B k q, .slice C n r] 32)
  have HB := Lib.hid hB
  have h1 := h.later hB
  have H1 := Lib.hid h1
  have L1 := Lib.hid (Blk.new w 32 #[.int .i64 sg, .int .i64 st, .slice A m p, .slice B k q, .slice C n r])
  obtain ⟨i, HI⟩ : ∃ i, Hid (idx o x = i) := ⟨_, Lib.hid rfl⟩
  have K := Lib.hid (in_is sg st A m p B k q C n r o l f x i _ h1 hm HI.out)
  unfold lenT at hy
  simp only [HI.out] at hy
  have hlt := idx_lt (l := o) (x := x)
  rw [HI.out] at hlt
  by_cases hi : i < 0
  · rw [if_pos hi] at hy
    obtain rfl : 0 = y := hy
    clear hlt hk h1 h hB
    go_enter Try.func24, Try.ntmps24
    go_wp2_with fail
    refine K.out.mono ?_
    rintro e w' ⟨rfl, hb⟩
    go_wp2_with fail
    go_ret
    exact ⟨rfl, Ge.trans HB.out hb⟩
  · rw [if_neg hi] at hy
    obtain ⟨j, rfl⟩ := Int.eq_ofNat_of_zero_le (by omega : 0 ≤ i)
    have hj : j < k := by have := h.b.len; omega
    have hji : (j : Int) < (k : Int) := by omega
    have HN : Hid (nth l j = y) := Lib.hid (by simpa using hy)
    clear hy hlt hk h1 h hB
    go_enter Try.func24, Try.ntmps24
    go_wp2_with fail
    refine K.out.mono ?_
    rintro e w' ⟨rfl, hb⟩
    obtain ⟨b, off, rfl, hbb, hc⟩ := (H1.out.b.later hb).cells (by omega)
    have c1 := hc j hj
    simp only [HN.out] at c1
    have c2 := (L1.out.later hb).cell 3
    simp at c2
    have BB := Lib.hid (Ge.trans HB.out hb)
    clear hc hb
    go_wp2_with fail
    go_ret
    exact ⟨rfl, BB.out⟩
end Go.Proofs.Ytpgbbbgblgkokaa
