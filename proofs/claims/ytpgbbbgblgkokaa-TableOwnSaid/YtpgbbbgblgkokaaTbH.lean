/- Contracts of table's free (a range over a function), of slices.AppendSeq and Collect over it, of Free, and of lowestFree: the free segments, rising; the lowest one; no memory that was there is changed. -/
import Derived.Test.YtpgbbbgblgkokaaTbG
import Derived.RangeFuncNested
import Derived.RangeFuncBound
import Derived.RangeFuncCalls
import Derived.RangeFuncLeaves
import Derived.RangeFuncBox
import Derived.Shelf.Abstract
import Derived.Shelf.RegionOpen
import Derived.OwnWalkIn
import Derived.TacticsInMore
import Derived.LoopNIn
import Derived.LoopIn
namespace Go.Proofs.Ytpgbbbgblgkokaa
open Go.RowKit Go.Lib Go.Shelf
set_option linter.unusedVariables false

attribute [local go_sem] Oper.semAt_some

theorem freeTo_mono (o : List Int) {i j : Nat} (h : i ≤ j) : freeTo o i <+: freeTo o j := by
  induction j with
  | zero => obtain rfl : i = 0 := by omega
            exact List.prefix_refl _
  | succ j ih =>
    by_cases hi : i = j + 1
    · subst hi; exact List.prefix_refl _
    · refine (ih (by omega)).trans ?_
      by_cases hm : (j : Int) ∈ o
      · rw [freeTo_no hm]; exact List.prefix_refl _
      · rw [freeTo_yes hm]; exact List.prefix_append _ _

set_option maxRecDepth 100000 in
set_option maxHeartbeats 2000000 in
/-- The iterator: each free segment, in order, as long as the round says so. -/
theorem free1_in (n : Nat) (hn : 1 ≤ n) (lp Bt N : Nat) (st : Int) (A : Option Addr) (m p : Nat) (B : Option Addr) (k q : Nat) (C : Option Addr) (n0 r : Nat) (o : List Int) (w0 : World) (K : Blk w0 Bt 28 (csT (N : Int) st A m p B k q C n0 r)) (hS : Sl .i64 w0 A m o) (hm : m ≤ maxLen) (hN : N ≤ 16) (J Jx : List Int → World → Prop)
    (hY : ∀ pre x W, J pre W → pre.length < (freeTo o N).length → YieldAt Fence.wide (n - 1) Try.prog lp #[.int .i64 x] W fun e W' =>
      (e = .returned (.bool true) ∧ J (pre ++ [x]) W' ∧ Below w0.heap.size W W') ∨ (e = .returned (.bool false) ∧ Jx (pre ++ [x]) W'))
    (W : World) (hW : Below w0.heap.size w0 W) (h0 : J [] W) :
    CallsIn Fence.wide n Try.prog 53 #[.func (.yield lp) #[] #[], .pointer (some ⟨Bt, 0, none⟩)] W fun e W' => (∃ v, e = .returned v) ∧
      ((∃ ys, ys = freeTo o N ∧ J ys W') ∨ (∃ pre, pre <+: freeTo o N ∧ Jx pre W')) := by
  have hro : Fence.wide.round = none := rfl
  have HK := Lib.hid K
  have HS := Lib.hid hS
  have c0 : W.cell? ⟨Bt, 0, none⟩ = some (.int .i64 (N : Int)) := ((bcell hW).1 Bt 0 K.lt).trans (K.cell 0)
  refine callsIn_of_wp Try.func53 rfl trivial ?_ hro
  simp only [Try.ntmps53, List.size_toArray, List.length_cons, List.length_nil, Nat.reduceAdd, Nat.reduceSub, Array.replicate_succ, Array.replicate_zero, List.push_toArray, List.append_toArray, List.nil_append, List.cons_append]
  gi_wp2
  gi_loopw [6] (fun i wr => ∃ k : Nat, k ≤ N ∧ i = .int .i64 k ∧ J (freeTo o k) wr ∧ Below w0.heap.size w0 wr)
    (fun i _ => N - (intOf i).toNat)
  case atStart => exact ⟨0, Nat.zero_le _, rfl, by rw [freeTo_zero]; exact h0, hW⟩
  case round =>
    obtain ⟨k1, hk, rfl, hJs, hnx⟩ := hrel
    have HX := Lib.hid hnx
    clear hnx hW K hS c0 h0
    by_cases hlt : k1 < N
    · have c2 : wr.cell? ⟨Bt, 2, none⟩ = some (.slice A m p) := ((bcell HX.out).1 Bt 2 HK.out.lt).trans (HK.out.cell 2)
      cases hd : decide ((k1 : Int) ∈ o) with
      | true =>
        have HD := Lib.hid (of_decide_eq_true hd)
        have C := Lib.hid (has_is A m p o (k1 : Int) true wr (HS.out.later HX.out) hm hd)
        clear hd
        gi_wp2_with (refine And.intro (a := True) trivial ?_; gi_at_call 50; refine (callsIn_wide.2 C.out).mono ?_; rintro e w' ⟨rfl, rfl⟩)
        refine ⟨fun _ h => (by cases h), ?_⟩
        gi_wp2
        go_roundw
        case rel => exact ⟨k1 + 1, by omega, by simp, by rw [freeTo_no HD.out]; exact hJs, HX.out⟩
        case measure => simp [intOf]; omega
      | false =>
        have HD := Lib.hid (of_decide_eq_false hd)
        have C := Lib.hid (has_is A m p o (k1 : Int) false wr (HS.out.later HX.out) hm hd)
        have hlen : (freeTo o k1).length < (freeTo o N).length := by
          have := (freeTo_mono o (show k1 + 1 ≤ N by omega)).length_le
          rw [freeTo_yes HD.out, List.length_append] at this
          simp at this
          omega
        obtain ⟨fn, tmps, assign, body, hy, hR⟩ := hY _ (k1 : Int) wr hJs hlen
        clear hd
        gi_wp2_with (refine And.intro (a := True) trivial ?_; gi_at_call 50; refine (callsIn_wide.2 C.out).mono ?_; rintro e w' ⟨rfl, rfl⟩)
        refine hR.mono ?_
        rintro e W3 (⟨rfl, hJ3, hk3⟩ | ⟨rfl, hJx3⟩)
        · gi_wp2
          go_roundw
          case rel => exact ⟨k1 + 1, by omega, by simp, by rw [freeTo_yes HD.out]; exact hJ3, HX.out.trans hk3⟩
          case measure => simp [intOf]; omega
        · gi_wp2
          refine bodyPost_ret (results_none rfl _ _ _) rfl ?_
          exact ⟨⟨_, rfl⟩, .inr ⟨_, by rw [← freeTo_yes HD.out]; exact freeTo_mono o (by omega), hJx3⟩⟩
    · obtain rfl : k1 = N := by omega
      gi_wp2
      go_end0
      exact ⟨⟨_, rfl⟩, .inl ⟨_, rfl, hJs⟩⟩

theorem free_is (sg st : Int) (A : Option Addr) (m p : Nat) (B : Option Addr) (k q : Nat) (C : Option Addr) (n r : Nat) (w : World) : Calls Try.prog 42 #[.agg #[.int .i64 sg, .int .i64 st, .slice A m p, .slice B k q, .slice C n r]] w fun e w' => e = .returned (.func (.func 53) #[] #[.pointer (some ⟨w.heap.size, 0, none⟩)]) ∧ w.alloc (.cells #[.int .i64 sg, .int .i64 st, .slice A m p, .slice B k q, .slice C n r] 28) = w' := by
  have hmf : ∀ (fn : Fn) (first cap : Array Value) (w : World), (Instr.makeFunc fn first cap).run Try.prog w = .ok (.func fn first cap) w := fun _ _ _ _ => rfl
  go_enter Try.func42, Try.ntmps42
  go_wp2_with fail
  go_ret
  exact ⟨rfl, rfl⟩

theorem free_stops (n : Nat) (hn : 1 ≤ n) (Bt N : Nat) (st : Int) (A : Option Addr) (m p : Nat) (B : Option Addr) (k q : Nat) (C : Option Addr) (n0 r : Nat) (o : List Int) (w : World) (K : Blk w Bt 28 (csT (N : Int) st A m p B k q C n0 r)) (hS : Sl .i64 w A m o) (hm : m ≤ maxLen) (hN : N ≤ 16) :
    SeqStopsK Fence.wide n Try.prog 53 #[.pointer (some ⟨Bt, 0, none⟩)] (fun x : Int => #[Value.int .i64 x]) (Below w.heap.size) (fun ys => ys = freeTo o N) (fun pre => pre <+: freeTo o N) (freeTo o N).length w := fun l J Jx W hW _ _ hY h0 =>
  free1_in n hn l Bt N st A m p B k q C n0 r o w K hS hm hN J Jx hY W hW h0

set_option maxRecDepth 100000 in
set_option maxHeartbeats 2000000 in
theorem appseq_in (n : Nat) (hn : 3 ≤ n) (Bt N : Nat) (st : Int) (A : Option Addr) (m p : Nat) (B : Option Addr) (k q : Nat) (C : Option Addr) (n0 r : Nat) (o : List Int) (w : World) (K : Blk w Bt 28 (csT (N : Int) st A m p B k q C n0 r)) (hS : Sl .i64 w A m o) (hm : m ≤ maxLen) (hN : N ≤ 16) :
    CallsIn Fence.wide n Try.prog 52 #[.slice none 0 0, .func (.func 53) #[] #[.pointer (some ⟨Bt, 0, none⟩)]] w (LstP (freeTo o N) w) := by
  have hro : Fence.wide.round = none := rfl
  have h1 : 1 ≤ n := by omega
  have hlen := freeTo_len o N
  obtain ⟨i0, hi, hz0, hz1, hz2⟩ := info_of infoI
  refine callsIn_of_wp_marks Try.func52 rfl trivial ?_ hro
  simp only [Try.ntmps52, List.size_toArray, List.length_cons, List.length_nil, Nat.reduceAdd, Nat.reduceSub, Array.replicate_succ, Array.replicate_zero, List.push_toArray, List.append_toArray, List.nil_append, List.cons_append]
  gi_wp2
  have bO := Boxed.new w 25 (.slice none 0 0)
  have hB0 : Below w.heap.size w (w.alloc (.cells #[.slice none 0 0] 25)) := below1 _ _
  refine wpIn_rangeFunc_ownG hro h1 (gf := 53) (lb := #[.pointer (some ⟨Bt, 0, none⟩)]) rfl trivial (enters_of Try.func53 (by kernel_rfl) rfl)
    (free_stops (n - 1) (by omega) Bt N st A m p B k q C n0 r o w K hS hm hN) belowK_t (belowK_b (by simp)) hB0 (fun _ => rfl)
    (fun pre W => (∃ v, Boxed W w.heap.size 25 v ∧ W.ownsRow w.heap.size 3 1 v pre.length (iv .i64 pre) ∧ True) ∧ Below w.heap.size w W)
    (fun _ _ _ => False)
    (OwnFrom.and (Own.from (holdsRow_own w.heap.size w.heap.size 25 3 1 (fun pre => pre.length) (fun pre => iv .i64 pre) (fun pre v => True)) _) (ownFrom_below (Nat.le_refl _) (by simp)))
    (fun _ _ _ _ _ hs _ _ => hs)
    ⟨⟨_, bO, World.ownsRow_nil _ _ _ _, trivial⟩, hB0⟩
    (fun x => { tmps := #[.slice none 0 0, .func (.func 53) #[] #[.pointer (some ⟨Bt, 0, none⟩)], .pointer (some ⟨w.heap.size, 0, none⟩), undef, .slice none 0 0, .int .i64 x, .func (.func 53) #[] #[.pointer (some ⟨Bt, 0, none⟩)], .int .i64 x, undef, undef, undef, undef, undef], defers := [] }) ?assign ?body ?done ?stop
  case assign =>
    intro l x W K hK
    gi_wp2
    exact hK
  case body =>
    rintro l pre x W ⟨⟨v, hv, hrow, _⟩, hB⟩ hlt
    have hc := hv.cell
    gi_wp2_with (gi_at_builtin; refine wpListIn_append_own _ rfl _ _ 25 rfl w.heap.size 3 i0 (.int .i64 0) 1 8 Try.underlying25 hi hz0 hz1 hz2 rfl (by decide) _ _ _ rfl (hrow.alloc _) ⟨W.heap.size, 0, none⟩ 1 1 [.int .i64 x] rfl rfl (cell_one_new _ _ _) (by simp [Value.oneCell']) (by simp only [maxLen]; omega) (by omega) (by have := hB.size; simp; omega) ?_; intro v' w1 hown' hgrow _; obtain ⟨g', cap', rfl⟩ := ownsRow_succ hown'; obtain ⟨hv1, hv2, hr2, hk2, hb2⟩ := hv.appended (by decide) hrow hB.size (Nat.le_refl _) hown' hgrow; have hc1 := hv1.cell; have hf1 := hv1.frozen)
    exact ⟨hk2.from _, hb2, ⟨_, hv2, by rw [← iv_snoc]; simpa using hr2, trivial⟩, hB.trans hb2⟩
  case done =>
    rintro D ys W hD rfl ⟨⟨v, hv, hrow, _⟩, hB⟩ hK
    have hc := hv.cell
    gi_wp2
    refine ⟨by simp, .inl ⟨_, _, rfl, run_takeDeferred hK, ?_⟩⟩
    obtain ⟨A', p', rfl⟩ := own_slice hrow
    exact ⟨_, results_tmp rfl _ _ _, A', _, p', rfl, own_sl (ownsRow_putObj hrow _ hK rfl), hB.trans (belowK_b (w := w) (Nat.le_refl _) W D _ _ (by simp at hD; omega) hK rfl rfl)⟩
  case stop =>
    rintro D c pre W _ _ h _
    exact h.elim

theorem collect_any (Bt N : Nat) (st : Int) (A : Option Addr) (m p : Nat) (B : Option Addr) (k q : Nat) (C : Option Addr) (n0 r : Nat) (o : List Int) (w : World) (K : Blk w Bt 28 (csT (N : Int) st A m p B k q C n0 r)) (hS : Sl .i64 w A m o) (hm : m ≤ maxLen) (hN : N ≤ 16) :
    Calls Try.prog 41 #[.func (.func 53) #[] #[.pointer (some ⟨Bt, 0, none⟩)]] w (LstP (freeTo o N) w) := by
  have H := Lib.hid (callsIn_wide.1 (appseq_in 3 (by omega) Bt N st A m p B k q C n0 r o w K hS hm hN))
  clear K hS
  go_enter Try.func41, Try.ntmps41
  go_wp2_with fail
  refine H.out.mono ?_
  rintro e w1 ⟨A1, m1, p1, rfl, h1, hb⟩
  go_wp2_with fail
  go_ret
  exact ⟨A1, m1, p1, rfl, h1, hb⟩

theorem tfree_main (N : Nat) (st : Int) (A : Option Addr) (m p : Nat) (B : Option Addr) (k q : Nat) (C : Option Addr) (n r : Nat) (o l f : List Int) (w : World) (h : TIn w A m B k C n o l f) (hm : m ≤ maxLen) (hN : N ≤ 16) :
    Calls Try.prog 17 #[.agg #[.int .i64 (N : Int), .int .i64 st, .slice A m p, .slice B k q, .slice C n r]] w (LstP (freeTo o N) w) := by
  have K0 : Blk (w.alloc (.cells #[.int .i64 (N : Int), .int .i64 st, .slice A m p, .slice B k q, .slice C n r] 28)) w.heap.size 28 (csT (N : Int) st A m p B k q C n r) := Blk.new w _ _
  have B0 := below1 w (.cells #[.int .i64 (N : Int), .int .i64 st, .slice A m p, .slice B k q, .slice C n r] 28)
  have b1 := below1 (w.alloc (.cells #[.int .i64 (N : Int), .int .i64 st, .slice A m p, .slice B k q, .slice C n r] 28)) (.cells #[.int .i64 (N : Int), .int .i64 st, .slice A m p, .slice B k q, .slice C n r] 28)
  have HK := Lib.hid K0
  have HB := Lib.hid (Ge.trans B0 b1)
  have K1 : Blk ((w.alloc (.cells #[.int .i64 (N : Int), .int .i64 st, .slice A m p, .slice B k q, .slice C n r] 28)).alloc (.cells #[.int .i64 (N : Int), .int .i64 st, .slice A m p, .slice B k q, .slice C n r] 28)) (w.heap.size + 1) 28 (csT (N : Int) st A m p B k q C n r) := Blk.at_ _ _ _ (by simp)
  have H := Lib.hid (collect_any (w.heap.size + 1) N st A m p B k q C n r o _ K1 ((h.a.later B0).later b1) hm hN)
  clear K0 B0 b1 K1 h
  go_enter Try.func17, Try.ntmps17
  go_wp2_with (first
    | (with_reducible refine load_t rfl (.tmp 1) rfl w.heap.size rfl HK.out ?_)
    | (go_at_call 42; refine (free_is (N : Int) st A m p B k q C n r _).mono ?_; rintro e w' ⟨rfl, rfl⟩))
  refine H.out.mono ?_
  rintro e w1 ⟨A1, m1, p1, rfl, h1, hb⟩
  go_wp2_with fail
  go_ret
  exact ⟨A1, m1, p1, rfl, h1, Ge.trans HB.out hb⟩

theorem tfree_any (sg st : Int) (A : Option Addr) (m p : Nat) (B : Option Addr) (k q : Nat) (C : Option Addr) (n r : Nat) (o l f : List Int) (w : World) (h : TIn w A m B k C n o l f) (hm : m ≤ maxLen) (hs : 0 ≤ sg ∧ sg ≤ 16) : Calls Try.prog 17 #[.agg #[.int .i64 sg, .int .i64 st, .slice A m p, .slice B k q, .slice C n r]] w (LstP (freeT ⟨sg, st, o, l, f⟩) w) := by
  obtain ⟨N, rfl⟩ := Int.eq_ofNat_of_zero_le hs.1
  exact tfree_main N st A m p B k q C n r o l f w h hm (by omega)
end Go.Proofs.Ytpgbbbgblgkokaa
