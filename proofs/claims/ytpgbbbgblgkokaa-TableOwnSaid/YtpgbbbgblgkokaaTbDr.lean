/- The document's Drop; no memory that was there is changed. -/
import Derived.Test.YtpgbbbgblgkokaaTbU
import Derived.Test.YtpgbbbgblgkokaaTbN
namespace Go.Proofs.Ytpgbbbgblgkokaa
open Go.RowKit Go.Lib
set_option linter.unusedVariables false

/-- The first j numbers without the i-th. -/
def er (l : List Int) (i j : Nat) : List Int := (l.take j).eraseIdx i
theorem er_zero (l : List Int) (i : Nat) : er l i 0 = [] := by simp [er]
theorem er_all (l : List Int) (i : Nat) : er l i l.length = l.eraseIdx i := by simp [er]
theorem er_skip {l : List Int} {i : Nat} (h : i < l.length) : er l i (i + 1) = er l i i := by
  unfold er
  have e : (l.take i).length = i := by rw [List.length_take]; omega
  rw [take_nth h, List.eraseIdx_append_of_length_le (by omega), e, Nat.sub_self, List.eraseIdx_of_length_le (l := l.take i) (by omega)]
  simp
theorem er_push {l : List Int} {i j : Nat} (h : j < l.length) (hne : j ≠ i) : er l i (j + 1) = er l i j ++ [nth l j] := by
  unfold er
  rw [take_nth h]
  rcases Nat.lt_or_gt_of_ne hne with hlt | hlt
  · rw [List.eraseIdx_of_length_le (by simp; omega), List.eraseIdx_of_length_le (by rw [List.length_take]; omega)]
  · rw [List.eraseIdx_append_of_lt_length (by rw [List.length_take]; omega)]
theorem er_len (l : List Int) (i j : Nat) : (er l i j).length ≤ j := by
  unfold er
  have := List.length_eraseIdx_le (l.take j) i
  rw [List.length_take] at this
  omega

/-- While the table is put together. -/
structure DrI (w : World) (b7 : Nat) (sg st : Int) (A : Option Addr) (m p : Nat) (B : Option Addr) (k q : Nat) (C : Option Addr) (n r : Nat) (o l f : List Int) (i j : Nat) (sg1 st1 : Int) (A1 : Option Addr) (m1 p1 : Nat) (B1 : Option Addr) (k1 q1 : Nat) (C1 : Option Addr) (n1 r1 : Nat) (W : World) : Prop where
  b : Below w.heap.size w W
  k : Blk W w.heap.size 32 (csT sg st A m p B k q C n r)
  z : Blk W (w.heap.size + 1) 32 (csT 0 0 none 0 0 none 0 0 none 0 0)
  s : Own3 32 (b7 + 1) b7 sg1 st1 A1 m1 p1 B1 k1 q1 C1 n1 r1 (er o i j) (er l i j) (er f i j) W
  lw : w.heap.size + 1 < b7
theorem own_len {W : World} {base : Nat} {e : TypeId} {A : Option Addr} {m p : Nat} {κ : IntKind} {l : List Int} (h : W.ownsRow base e 1 (.slice A m p) m (iv κ l)) : m = l.length := by
  have := h.1
  rw [iv_len] at this
  omega

set_option maxRecDepth 100000 in
set_option maxHeartbeats 32000000 in
theorem rdrop_any (sg st : Int) (A : Option Addr) (m p : Nat) (B : Option Addr) (k q : Nat) (C : Option Addr) (n r : Nat) (o l f : List Int) (x : Int) (w : World) (h : TIn w A m B k C n o l f) (hok : okP ⟨sg, st, o, l, f⟩) :
    Calls Try.prog 40 #[.agg #[.int .i64 sg, .int .i64 st, .slice A m p, .slice B k q, .slice C n r], .int .i64 x] w (RefF (tabOf (dropT ⟨sg, st, o, l, f⟩ x)) (errOf (dropT ⟨sg, st, o, l, f⟩ x) 1) w) := by
  have hm := (ok_full hok h).2.1
  have hk := (ok_full hok h).2.2.1
  have hn := (ok_full hok h).2.2.2.1
  have hml := (ok_full hok h).2.2.2.2.1
  have lo := h.a.len
  have ll := h.b.len
  have lf := h.c.len
  obtain ⟨ga, oa, rfl, hga, ca⟩ := h.a.cells (by omega)
  obtain ⟨gb, ob, rfl, hgb, cb⟩ := h.b.cells (by omega)
  obtain ⟨gc, oc, rfl, hgc, cc⟩ := h.c.cells (by omega)
  obtain ⟨y, HY⟩ : ∃ y, Hid (idx o x = y) := ⟨_, Lib.hid rfl⟩
  have yb : -1 ≤ y ∧ y < (m : Int) := by rw [← HY.out, lo]; exact ⟨idx_ge, idx_lt⟩
  have HT := Lib.hid h
  have HLo := Lib.hid lo
  have HLl := Lib.hid ll
  have HLf := Lib.hid lf
  have hk2 : k = m := hk
  have hn2 : n = m := hn
  have hv := Try.zeroValue32
  have B0 : Below w.heap.size w ((w.alloc (.cells #[.int .i64 sg, .int .i64 st, .slice (some ⟨ga, oa, none⟩) m p, .slice (some ⟨gb, ob, none⟩) k q, .slice (some ⟨gc, oc, none⟩) n r] 32)).alloc (.cells #[.int .i64 0, .int .i64 0, .slice none 0 0, .slice none 0 0, .slice none 0 0] 32)) := Ge.trans (below1 _ _) (below1 _ _)
  have K0 : Blk ((w.alloc (.cells #[.int .i64 sg, .int .i64 st, .slice (some ⟨ga, oa, none⟩) m p, .slice (some ⟨gb, ob, none⟩) k q, .slice (some ⟨gc, oc, none⟩) n r] 32)).alloc (.cells #[.int .i64 0, .int .i64 0, .slice none 0 0, .slice none 0 0, .slice none 0 0] 32)) w.heap.size 32 (csT sg st (some ⟨ga, oa, none⟩) m p (some ⟨gb, ob, none⟩) k q (some ⟨gc, oc, none⟩) n r) := (Blk.new w _ _).later (below1 _ _)
  have Z0 : Blk ((w.alloc (.cells #[.int .i64 sg, .int .i64 st, .slice (some ⟨ga, oa, none⟩) m p, .slice (some ⟨gb, ob, none⟩) k q, .slice (some ⟨gc, oc, none⟩) n r] 32)).alloc (.cells #[.int .i64 0, .int .i64 0, .slice none 0 0, .slice none 0 0, .slice none 0 0] 32)) (w.heap.size + 1) 32 (csT 0 0 none 0 0 none 0 0 none 0 0) := Blk.at_ _ _ _ (by simp)
  have S0 : w.heap.size + 2 ≤ ((w.alloc (.cells #[.int .i64 sg, .int .i64 st, .slice (some ⟨ga, oa, none⟩) m p, .slice (some ⟨gb, ob, none⟩) k q, .slice (some ⟨gc, oc, none⟩) n r] 32)).alloc (.cells #[.int .i64 0, .int .i64 0, .slice none 0 0, .slice none 0 0, .slice none 0 0] 32)).heap.size := by simp
  have C0 := Lib.hid (in_is sg st (some ⟨ga, oa, none⟩) m p (some ⟨gb, ob, none⟩) k q (some ⟨gc, oc, none⟩) n r o l f x y ((w.alloc (.cells #[.int .i64 sg, .int .i64 st, .slice (some ⟨ga, oa, none⟩) m p, .slice (some ⟨gb, ob, none⟩) k q, .slice (some ⟨gc, oc, none⟩) n r] 32)).alloc (.cells #[.int .i64 0, .int .i64 0, .slice none 0 0, .slice none 0 0, .slice none 0 0] 32)) (h.later B0) hml HY.out)
  have HKN := Lib.hid (And.intro hk2 hn2)
  clear h lo ll lf hk hn hk2 hn2
  obtain ⟨W1, EW⟩ : ∃ W1, Hid (((w.alloc (.cells #[.int .i64 sg, .int .i64 st, .slice (some ⟨ga, oa, none⟩) m p, .slice (some ⟨gb, ob, none⟩) k q, .slice (some ⟨gc, oc, none⟩) n r] 32)).alloc (.cells #[.int .i64 0, .int .i64 0, .slice none 0 0, .slice none 0 0, .slice none 0 0] 32)) = W1) := ⟨_, rfl⟩
  rw [EW.out] at B0 K0 Z0 S0 C0
  go_enter Try.func40, Try.ntmps40
  go_upto_region 1 with fail
  rw [EW.out]
  clear EW
  go_wp2_with (with_reducible refine load_r rfl (.tmp 2) rfl w.heap.size rfl K0 ?_)
  refine C0.out.mono ?_
  rintro e' w2 ⟨rfl, hb⟩
  replace B0 := Ge.trans B0 hb
  replace K0 := K0.later hb
  replace Z0 := Z0.later hb
  replace S0 := Nat.le_trans S0 hb.size
  clear hb C0
  have e2 : w2.cell? ⟨w.heap.size, 2, none⟩ = some (.slice (some ⟨ga, oa, none⟩) m p) := K0.cell 2
  have hz : Hid (Blk w2 (w.heap.size + 1) 32 (csT 0 0 none 0 0 none 0 0 none 0 0)) := Lib.hid Z0
  by_cases hy : y < 0
  · have HC : Hid (dropT ⟨sg, st, o, l, f⟩ x = none) := Lib.hid (by unfold dropT; simp only; rw [HY.out, if_pos (.inl hy)])
    go_wp2_with (with_reducible refine store_r rfl (.tmp 4) (.tmp 22) rfl (w.heap.size + 1) rfl rfl hz.out ?_)
    exact bodyPost_ret (res_r2 (y := .int .i64 1) rfl _ _ (w.heap.size + 1) rfl rfl (hz.out.row _)) rfl (by rw [HC.out]; exact zero_reff 1 w _ (below_row B0 (by omega) _))
  have w1 : IntKind.i64.wrap ((m : Int) - 1) = (m : Int) - 1 := IntWalk.i64_in _ (by omega)
  by_cases hy2 : y = (m : Int) - 1
  · have HC : Hid (dropT ⟨sg, st, o, l, f⟩ x = none) := Lib.hid (by unfold dropT; simp only; rw [HY.out, if_pos (.inr (by rw [← HLo.out]; exact hy2))])
    have hq : (y == (m : Int) - 1) = true := by simp [hy2]
    clear hy2
    go_wp2_with (with_reducible refine store_r rfl (.tmp 4) (.tmp 22) rfl (w.heap.size + 1) rfl rfl hz.out ?_)
    exact bodyPost_ret (res_r2 (y := .int .i64 1) rfl _ _ (w.heap.size + 1) rfl rfl (hz.out.row _)) rfl (by rw [HC.out]; exact zero_reff 1 w _ (below_row B0 (by omega) _))
  have hq : (y == (m : Int) - 1) = false := by simp [hy2]
  obtain ⟨i, rfl⟩ : ∃ i : Nat, y = (i : Int) := ⟨y.toNat, by omega⟩
  have hil : i + 1 < m := by omega
  have HC : Hid (dropT ⟨sg, st, o, l, f⟩ x = some ⟨sg, st, o.eraseIdx i, l.eraseIdx i, f.eraseIdx i⟩) := Lib.hid (by
    unfold dropT
    simp only
    rw [HY.out, if_neg (by rw [← HLo.out]; omega)]
    rfl)
  have e0 : w2.cell? ⟨w.heap.size, 0, none⟩ = some (.int .i64 sg) := K0.cell 0
  have e1 : w2.cell? ⟨w.heap.size, 1, none⟩ = some (.int .i64 st) := K0.cell 1
  have N7 : Blk (w2.alloc (.cells #[.int .i64 0, .int .i64 0, .slice none 0 0, .slice none 0 0, .slice none 0 0] 32)) w2.heap.size 32 (csT 0 0 none 0 0 none 0 0 none 0 0) := Blk.new w2 _ _
  clear hy hy2 yb
  go_upto_region 5 with (with_reducible refine store_r rfl (.tmp 7) (.tmp 27) rfl w2.heap.size rfl rfl N7 ?_)
  have D0 : Hid (DrI w w2.heap.size sg st (some ⟨ga, oa, none⟩) m p (some ⟨gb, ob, none⟩) k q (some ⟨gc, oc, none⟩) n r o l f i 0 sg st none 0 0 none 0 0 none 0 0 ((w2.alloc (.cells #[.int .i64 0, .int .i64 0, .slice none 0 0, .slice none 0 0, .slice none 0 0] 32)).setRow w2.heap.size (csT sg st none 0 0 none 0 0 none 0 0))) := Lib.hid
    ⟨below_row (Ge.trans B0 (below1 _ _)) (by omega) _, (K0.later (below1 _ _)).far (by have := K0.lt; omega) _, (Z0.later (below1 _ _)).far (by have := Z0.lt; omega) _,
      ⟨N7.row _, by omega, ⟨by rw [er_zero]; exact World.ownsRow_nil _ _ _ _, by rw [er_zero]; exact World.ownsRow_nil _ _ _ _, by rw [er_zero]; exact World.ownsRow_nil _ _ _ _, fun g hg => by cases hg⟩, by rw [row_size]; simp⟩, by omega⟩
  clear e0 e1 e2 hz hq w1 B0 K0 Z0 S0 N7 hok hv
  generalize (w2.alloc (.cells #[.int .i64 0, .int .i64 0, .slice none 0 0, .slice none 0 0, .slice none 0 0] 32)).setRow w2.heap.size (csT sg st none 0 0 none 0 0 none 0 0) = w3 at *
  generalize w2.heap.size = b7 at *
  go_wp2_with fail
  go_loopg [8] m (fun gk s8 wr => ∃ j A1 m1 p1 B1 k1 q1 C1 n1 r1, j ≤ m ∧ gk = m - j ∧ s8 = .int .i64 (j : Nat) ∧ Hid (DrI w b7 sg st (some ⟨ga, oa, none⟩) m p (some ⟨gb, ob, none⟩) k q (some ⟨gc, oc, none⟩) n r o l f i j sg st A1 m1 p1 B1 k1 q1 C1 n1 r1 wr))
  case atStart => exact ⟨0, _, _, _, _, _, _, _, _, _, by omega, by omega, rfl, D0⟩
  case round =>
    obtain ⟨j, A1, m1, p1, B1, k1, q1, C1, n1, r1, hj, hgk, rfl, DD⟩ := hrel
    have HG := Lib.hid hgk
    clear hgk D0
    have e2 : wr.cell? ⟨w.heap.size, 2, none⟩ = some (.slice (some ⟨ga, oa, none⟩) m p) := DD.out.k.cell 2
    by_cases hlt : j < m
    · have hji : (j : Int) < (m : Int) := by omega
      by_cases hne : j = i
      · subst hne
        have hq : ((j : Int) != (j : Int)) = false := by simp
        have D2 : Hid (DrI w b7 sg st (some ⟨ga, oa, none⟩) m p (some ⟨gb, ob, none⟩) k q (some ⟨gc, oc, none⟩) n r o l f j (j + 1) sg st A1 m1 p1 B1 k1 q1 C1 n1 r1 wr) := Lib.hid (by
          have D := DD.out
          refine ⟨D.b, D.k, D.z, ?_, D.lw⟩
          have S := D.s
          rw [er_skip (by rw [← HLo.out]; exact hlt), er_skip (by rw [← HLl.out, HKN.out.1]; exact hlt), er_skip (by rw [← HLf.out, HKN.out.2]; exact hlt)]
          exact S)
        clear DD hlt
        go_wp2_with fail
        go_roundg (m - (j + 1))
        case measure => have := HG.out; omega
        case rel => exact ⟨j + 1, _, _, _, _, _, _, _, _, _, by omega, rfl, by go_num, D2⟩
      · have hq : ((j : Int) != (i : Int)) = true := by simp; omega
        have hm1 : m1 < 1000 := by have h1 := own_len DD.out.s.s.a; have h2 := er_len o i j; omega
        have hk1 : k1 < 1000 := by have h1 := own_len DD.out.s.s.b; have h2 := er_len l i j; omega
        have hn1 : n1 < 1000 := by have h1 := own_len DD.out.s.s.c; have h2 := er_len f i j; omega
        have hjk : (j : Int) < (k : Int) := by rw [HKN.out.1]; exact hji
        have hjn : (j : Int) < (n : Int) := by rw [HKN.out.2]; exact hji
        have hb7 := DD.out.lw
        obtain ⟨u1, U1⟩ : ∃ u, Hid (nth o j = u) := ⟨_, Lib.hid rfl⟩
        obtain ⟨u2, U2⟩ : ∃ u, Hid (nth l j = u) := ⟨_, Lib.hid rfl⟩
        obtain ⟨u3, U3⟩ : ∃ u, Hid (nth f j = u) := ⟨_, Lib.hid rfl⟩
        have ga1 : wr.cell? ⟨ga, oa + j, none⟩ = some (.int .i64 u1) := by rw [((bcell DD.out.b).1 _ _ hga), ca j hlt, U1.out]
        have b2 : Below wr.heap.size wr (wr.alloc (.cells #[.int .i64 u1] 3)).drew := Ge.trans (below1 _ _) (below_drawn _)
        obtain ⟨gA, pA, Y2, run2, cA, fA, O4, bl2, kl2⟩ := (DD.out.s.later b2).push_a (nb := wr.heap.size) (x := u1) (((Blk.new wr 3 #[.int .i64 u1]).later (below_drawn _)).cell 0) hm1
        have k2 : wr.cell? ⟨b7, 2, none⟩ = some (.slice A1 m1 p1) := DD.out.s.z.cell 2
        have k2' : (wr.alloc (.cells #[.int .i64 u1] 3)).cell? ⟨b7, 2, none⟩ = some (.slice A1 m1 p1) := (DD.out.s.z.later (below1 _ _)).cell 2
        have X4 : Hid (Below w.heap.size w (Y2.setCell ⟨b7, 2, none⟩ (.slice (some ⟨gA, 0, none⟩) (m1 + 1) pA)) ∧ Blk (Y2.setCell ⟨b7, 2, none⟩ (.slice (some ⟨gA, 0, none⟩) (m1 + 1) pA)) w.heap.size 32 (csT sg st (some ⟨ga, oa, none⟩) m p (some ⟨gb, ob, none⟩) k q (some ⟨gc, oc, none⟩) n r) ∧ Blk (Y2.setCell ⟨b7, 2, none⟩ (.slice (some ⟨gA, 0, none⟩) (m1 + 1) pA)) (w.heap.size + 1) 32 (csT 0 0 none 0 0 none 0 0 none 0 0)) :=
          Lib.hid ⟨bl2 w (Ge.trans DD.out.b b2) (by omega), kl2 _ _ _ (DD.out.k.later b2) (by omega) (by omega), kl2 _ _ _ (DD.out.z.later b2) (by omega) (by omega)⟩
        have HO4 := Lib.hid O4
        clear O4 bl2 kl2 b2 DD
        go_upto_region 9 with fail
        go_cut [] (fun wx => Y2.setCell ⟨b7, 2, none⟩ (.slice (some ⟨gA, 0, none⟩) (m1 + 1) pA) = wx)
        case first =>
          go_region_law (refine step_append_run rfl (.tmp 39) (.tmp 45) 25 rfl _ _ rfl rfl run2 ?_)
          all_goals
            go_wp2_with fail
            go_meet
            rfl
        case rest =>
        subst hcut
        clear run2 cA fA k2 k2' ga1 e2
        generalize Y2.setCell ⟨b7, 2, none⟩ (.slice (some ⟨gA, 0, none⟩) (m1 + 1) pA) = wr2 at *
        have e3 : wr2.cell? ⟨w.heap.size, 3, none⟩ = some (.slice (some ⟨gb, ob, none⟩) k q) := X4.out.2.1.cell 3
        have gb1 : wr2.cell? ⟨gb, ob + j, none⟩ = some (.int .i64 u2) := by rw [((bcell X4.out.1).1 _ _ hgb), cb j (by omega), U2.out]
        have b2 : Below wr2.heap.size wr2 (wr2.alloc (.cells #[.int .i64 u2] 3)).drew := Ge.trans (below1 _ _) (below_drawn _)
        obtain ⟨gB, pB, Y4, run4, cB, fB, O6, bl2, kl2⟩ := (HO4.out.later b2).push_b (nb := wr2.heap.size) (x := u2) (((Blk.new wr2 3 #[.int .i64 u2]).later (below_drawn _)).cell 0) hk1
        have k3 : wr2.cell? ⟨b7, 3, none⟩ = some (.slice B1 k1 q1) := HO4.out.z.cell 3
        have k3' : (wr2.alloc (.cells #[.int .i64 u2] 3)).cell? ⟨b7, 3, none⟩ = some (.slice B1 k1 q1) := (HO4.out.z.later (below1 _ _)).cell 3
        have X6 : Hid (Below w.heap.size w (Y4.setCell ⟨b7, 3, none⟩ (.slice (some ⟨gB, 0, none⟩) (k1 + 1) pB)) ∧ Blk (Y4.setCell ⟨b7, 3, none⟩ (.slice (some ⟨gB, 0, none⟩) (k1 + 1) pB)) w.heap.size 32 (csT sg st (some ⟨ga, oa, none⟩) m p (some ⟨gb, ob, none⟩) k q (some ⟨gc, oc, none⟩) n r) ∧ Blk (Y4.setCell ⟨b7, 3, none⟩ (.slice (some ⟨gB, 0, none⟩) (k1 + 1) pB)) (w.heap.size + 1) 32 (csT 0 0 none 0 0 none 0 0 none 0 0)) :=
          Lib.hid ⟨bl2 w (Ge.trans X4.out.1 b2) (by omega), kl2 _ _ _ (X4.out.2.1.later b2) (by omega) (by omega), kl2 _ _ _ (X4.out.2.2.later b2) (by omega) (by omega)⟩
        have HO6 := Lib.hid O6
        clear O6 bl2 kl2 b2 HO4 X4
        go_wp2_with fail
        go_cut [] (fun wx => Y4.setCell ⟨b7, 3, none⟩ (.slice (some ⟨gB, 0, none⟩) (k1 + 1) pB) = wx)
        case first =>
          go_region_law (refine step_append_run rfl (.tmp 49) (.tmp 55) 25 rfl _ _ rfl rfl run4 ?_)
          all_goals
            go_wp2_with fail
            go_meet
            rfl
        case rest =>
        subst hcut
        clear run4 cB fB k3 k3' gb1 e3
        generalize Y4.setCell ⟨b7, 3, none⟩ (.slice (some ⟨gB, 0, none⟩) (k1 + 1) pB) = wr4 at *
        have e4 : wr4.cell? ⟨w.heap.size, 4, none⟩ = some (.slice (some ⟨gc, oc, none⟩) n r) := X6.out.2.1.cell 4
        have gc1 : wr4.cell? ⟨gc, oc + j, none⟩ = some (.int .u64 u3) := by rw [((bcell X6.out.1).1 _ _ hgc), cc j (by omega), U3.out]
        have b2 : Below wr4.heap.size wr4 (wr4.alloc (.cells #[.int .u64 u3] 23)).drew := Ge.trans (below1 _ _) (below_drawn _)
        obtain ⟨gC, pC, Y6, run6, cC, fC, O8, bl2, kl2⟩ := (HO6.out.later b2).push_c (nb := wr4.heap.size) (x := u3) (((Blk.new wr4 23 #[.int .u64 u3]).later (below_drawn _)).cell 0) hn1
        have k4 : wr4.cell? ⟨b7, 4, none⟩ = some (.slice C1 n1 r1) := HO6.out.z.cell 4
        have k4' : (wr4.alloc (.cells #[.int .u64 u3] 23)).cell? ⟨b7, 4, none⟩ = some (.slice C1 n1 r1) := (HO6.out.z.later (below1 _ _)).cell 4
        have D2 : Hid (DrI w b7 sg st (some ⟨ga, oa, none⟩) m p (some ⟨gb, ob, none⟩) k q (some ⟨gc, oc, none⟩) n r o l f i (j + 1) sg st (some ⟨gA, 0, none⟩) (m1 + 1) pA (some ⟨gB, 0, none⟩) (k1 + 1) pB (some ⟨gC, 0, none⟩) (n1 + 1) pC (Y6.setCell ⟨b7, 4, none⟩ (.slice (some ⟨gC, 0, none⟩) (n1 + 1) pC))) := Lib.hid (by
          refine ⟨bl2 w (Ge.trans X6.out.1 b2) (by omega), kl2 _ _ _ (X6.out.2.1.later b2) (by omega) (by omega), kl2 _ _ _ (X6.out.2.2.later b2) (by omega) (by omega), ?_, hb7⟩
          rw [er_push (by rw [← HLo.out]; exact hlt) hne, er_push (by rw [← HLl.out, HKN.out.1]; exact hlt) hne, er_push (by rw [← HLf.out, HKN.out.2]; exact hlt) hne, U1.out, U2.out, U3.out]
          exact O8)
        clear O8 bl2 kl2 b2 HO6 X6
        go_wp2_with fail
        go_region_law (refine step_append_run rfl (.tmp 59) (.tmp 65) 26 rfl _ _ rfl rfl run6 ?_)
        all_goals
          clear run6 cC fC k4 k4' gc1 e4
          generalize Y6.setCell ⟨b7, 4, none⟩ (.slice (some ⟨gC, 0, none⟩) (n1 + 1) pC) = wr6 at *
          go_wp2_with fail
          go_roundg (m - (j + 1))
          case measure => have := HG.out; omega
          case rel => exact ⟨j + 1, _, _, _, _, _, _, _, _, _, by omega, rfl, by go_num, D2⟩
    · obtain rfl : j = m := by omega
      have hji : ¬ (j : Int) < (j : Int) := by omega
      have K := Lib.hid DD.out.s.z
      have Z := Lib.hid DD.out.z
      go_wp2_with (first
        | (with_reducible refine load_r rfl (.tmp 7) rfl b7 rfl K.out ?_)
        | (with_reducible refine store_r rfl (.tmp 4) (.tmp 68) rfl (w.heap.size + 1) rfl rfl Z.out ?_))
      have hb7 := DD.out.lw
      have R9 := DD.out.s.s.row (b := w.heap.size + 1) (cs := csT sg st A1 m1 p1 B1 k1 q1 C1 n1 r1) (by omega)
      exact bodyPost_ret (res_r2 (y := .int .i64 0) rfl _ _ (w.heap.size + 1) rfl rfl (Z.out.row _)) rfl (by
        rw [HC.out]
        have T := R9.tin
        have FF := (R9.wide (b' := w.heap.size) (by omega)).fresh
        rw [show er o i j = o.eraseIdx i by rw [HLo.out]; exact er_all o i, show er l i j = l.eraseIdx i by rw [← HKN.out.1, HLl.out]; exact er_all l i, show er f i j = f.eraseIdx i by rw [← HKN.out.2, HLf.out]; exact er_all f i] at T
        exact ⟨_, _, _, _, _, _, _, _, _, rfl, T, FF, below_row DD.out.b (by omega) _⟩)
end Go.Proofs.Ytpgbbbgblgkokaa
