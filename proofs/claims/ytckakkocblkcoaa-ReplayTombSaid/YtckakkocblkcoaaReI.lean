/- The library's iterator over the map's elements, and what collects them: each newest record once, in some order. -/
import Derived.Test.YtckakkocblkcoaaReV
import Derived.Sort.KeysCollected
import Derived.Sort.MapsRangeIn
import Derived.RangeFuncMany
import Derived.RangeFuncNested
import Derived.RangeFuncBound
import Derived.RangeFuncCalls
import Derived.RangeFuncLeaves
import Derived.RangeFuncBox
import Derived.Shelf.Abstract
import Derived.Shelf.AbstractIn
import Derived.Shelf.RegionOpen
import Derived.OwnWalkIn
import Derived.TacticsInMore
import Derived.RegionIn
import Derived.LoopNIn
import Derived.LoopIn
namespace Go.Proofs.Ytckakkocblkcoaa.Re
open Go.RowKit Go.Lib Go.Maps
open Sp
set_option linter.unusedVariables false
set_option maxRecDepth 100000

attribute [local go_sem] Oper.semAt_some

/-- All have come: the map's keys are theirs, each once; each is what stands at its key. -/
structure AllR (D : DataW Rec) (rs : List Rec) : Prop where
  p : (rs.map Rec.key).Perm (strKeys D)
  nd : (rs.map Rec.key).Nodup
  m : ∀ x, x ∈ rs.map Rec.key ↔ has D (.string x) = true
  at_ : ∀ r ∈ rs, ∀ zd, D.atKey (.string r.key) zd = .held r
/-- What stands at a key has that key. -/
def OwnK (D : DataW Rec) : Prop := ∀ x r, (∀ zd, D.atKey (.string x) zd = .held r) → r.key = x
theorem MapD.ownK {D : DataW Rec} {l : List Rec} (h : MapD D l) : OwnK D := fun x r hr => by
  have h1 := (h.at_ x (.held zR)).symm.trans (hr _)
  have h2 := (h.at_ x .nil).symm.trans (hr _)
  cases hb : best l x with
  | none => rw [hb] at h2; cases h2
  | some q =>
    rw [hb] at h1
    injection h1 with h1
    subst h1
    exact (best_mem hb).2.2
set_option maxHeartbeats 4000000 in
theorem vals_in (n : Nat) (hn : 1 ≤ n) (l Bm b nn : Nat) (D0 : DataW Rec) (hK0 : OwnK D0) (J Jx : List Rec → World → Prop)
    (hY : ∀ pre r W, J pre W → pre.length < Maps.size D0 → YieldAt Fence.wide (n - 1) Try.prog l #[.agg (rcA r)] W fun e W' =>
      (e = .returned (.bool true) ∧ J (pre ++ [r]) W' ∧ KeepsWalks W W') ∨ (e = .returned (.bool false) ∧ Jx (pre ++ [r]) W'))
    (W : World) (hJ : AbidesFrom W.heap.size J) (hm : W.cell? ⟨Bm, 0, none⟩ = some (.map (some b))) (hown : W.ownsMap Try.prog 9 recR b nn D0) (h0 : J [] W) :
    CallsIn Fence.wide n Try.prog 31 #[.func (.yield l) #[] #[], .pointer (some ⟨Bm, 0, none⟩)] W fun e W' => (∃ v, e = .returned v) ∧
      ((∃ rs, AllR D0 rs ∧ J rs W') ∨ (∃ pre, True ∧ Jx pre W')) := by
  have hro : Fence.wide.round = none := rfl
  refine callsIn_of_wp Try.func31 rfl trivial ?_ hro
  simp only [Try.ntmps31, List.size_toArray, List.length_cons, List.length_nil, Nat.reduceAdd, Nat.reduceSub, Array.replicate_succ, Array.replicate_zero, List.push_toArray, List.append_toArray, List.nil_append, List.cons_append]
  gi_wp2_with (first
    | (gi_at_range; refine wpListIn_range_own _ rfl _ 52 rfl 9 42 (string_keyed Try.underlying9) Try.underlying52 _ b nn _ rfl hown ?_; intro w0 hrg0 hg0 hs0)
    | gi_in)
  go_frame
  gi_loopw [] (fun wr => ∃ (left : Lit → Bool) (cnt : Nat) (rs : List Rec), wr.ranges Try.prog 9 recR b W.heap.size nn D0 left cnt ∧ rs.length + cnt ≤ Maps.size D0 ∧ Collected D0 left (rs.map Rec.key) ∧ (∀ r ∈ rs, ∀ zd, D0.atKey (.string r.key) zd = .held r) ∧ J rs wr)
    (fun wr => wr.rangeLeft b W.heap.size)
  case atStart =>
    exact ⟨_, _, [], hrg0, by simp, Collected.start D0, by simp, hJ [] W w0 none h0 hg0 (fun r e => by cases e)⟩
  case round =>
    obtain ⟨left, cnt, rs, hrg, hcs, hC, hV, hJs⟩ := hrel
    gi_wp2_with (first
      | (gi_at_next; refine wpListIn_next_ranges _ rfl _ rfl 9 (string_keyed Try.underlying9) recR encStr (fun r => .agg (rcA r)) (fun key kl hk => by obtain ⟨x, hx, _⟩ := Maps.keyOf_str Try.underlying9 hk; exact ⟨x, hx⟩) (fun v y hv => by obtain ⟨c, rfl, _⟩ := recR_inv hv; exact ⟨c, rfl⟩) b W.heap.size nn _ _ _ rfl hrg ?_ ?_)
      | gi_in)
    · intro hc0 hl0
      gi_wp2
      go_end0
      exact ⟨⟨_, rfl⟩, .inl ⟨rs, ⟨hC.perm hown (string_keyed Try.underlying9) Try.underlying9 hl0, hC.1, fun x => by rw [hC.2 x, hl0]; simp, hV⟩, hJs⟩⟩
    · intro x c kl yd yp w2 cnt2 hkey hlk hv hat hrg2 hlt hg2 hs2 hen
      obtain ⟨x', ex, rfl, _⟩ := Maps.keyOf_str Try.underlying9 hkey
      obtain rfl : x = x' := encStr_inj ex
      obtain ⟨c', ec, ez⟩ := recR_inv hv
      obtain rfl : c = c' := by
        injection ec with ec
        have := congrArg Array.toList ec
        obtain ⟨⟩ := c
        obtain ⟨⟩ := c'
        simpa using this
      obtain rfl : yd = .held c := (Prod.mk.inj ez).1
      obtain rfl : c.key = x := hK0 x c hat
      have hJ2 : J rs w2 := hJ rs wr w2 (some W.heap.size) hJs hg2 (fun r e => by cases e; exact ⟨Nat.le_refl _, hrg.iter_walk⟩)
      have hJ3 : J rs (w2.alloc (.cells (rcA c) 42)) := hJ rs w2 _ none hJ2 (World.grownBy_alloc _ _ none) (fun r e => by cases e)
      have hrg3 := hrg2.alloc (.cells (rcA c) 42)
      obtain ⟨fn, tmps, assign, body, hy, hR⟩ := hY rs c _ hJ3 (by omega)
      clear hs2
      gi_wp2
      refine hR.mono ?_
      have hC2 : Collected D0 (fun z => left z && !z.sameKey (.string c.key)) ((rs ++ [c]).map Rec.key) := by simpa using hC.step hlk hat
      have hV2 : ∀ r ∈ rs ++ [c], ∀ zd, D0.atKey (.string r.key) zd = .held r := fun r hr => (List.mem_append.1 hr).elim (hV r) (fun e => by simp at e; subst e; exact hat)
      rintro e W3 (⟨rfl, hJ4, hk3⟩ | ⟨rfl, hJx3⟩)
      · gi_wp2
        have hrg4 := hrg3.of_walks hk3
        go_roundw
        case rel => exact ⟨_, cnt2, rs ++ [c], hrg4, by simp; omega, hC2, hV2, hJ4⟩
        case measure => rw [hrg4.left_eq, hrg.left_eq]; exact hlt
      · gi_wp2
        refine bodyPost_ret (results_none rfl _ _ _) rfl ?_
        exact ⟨⟨_, rfl⟩, .inr ⟨rs ++ [c], trivial, hJx3⟩⟩

theorem vals_stops (n : Nat) (hn : 1 ≤ n) (Bm b nn : Nat) (D0 : DataW Rec) (hK0 : OwnK D0) (w : World) (K : Sp.Blk w Bm 52 #[.map (some b)]) (hown : w.ownsMap Try.prog 9 recR b nn D0) :
    SeqStopsK Fence.wide n Try.prog 31 #[.pointer (some ⟨Bm, 0, none⟩)] (fun r : Rec => #[Value.agg (rcA r)]) KeepsWalks (AllR D0) (fun _ => True) (Maps.size D0) w := fun l J Jx W hW hJ _ hY h0 =>
  vals_in n hn l Bm b nn D0 hK0 J Jx hY W hJ ((hW.cell (p := ⟨Bm, 0, none⟩) K.lt).trans (K.cell 0)) (mapLater hown hW) h0

/-- A block that a walk's step leaves. -/
theorem blk_own {β : Type} (B : Nat) (t : TypeId) (cs : Array Value) : Own (fun (_ : β) W => Sp.Blk W B t cs) := fun s X Y row hs hg hrow =>
  (hg.block B hs.lt (fun e => by obtain ⟨o, ho, hc⟩ := hrow B e.symm; rw [show X.heap[B]? = _ from hs] at ho; cases ho; cases hc)).trans hs
set_option maxHeartbeats 4000000 in
theorem rappseq_in (n : Nat) (hn : 3 ≤ n) (Bm b nn : Nat) (D0 : DataW Rec) (hK0 : OwnK D0) (w : World) (K : Sp.Blk w Bm 52 #[.map (some b)]) (hown : w.ownsMap Try.prog 9 recR b nn D0) (hnn : Maps.size D0 ≤ 200) :
    CallsIn Fence.wide n Try.prog 34 #[.slice none 0 0, .func (.func 31) #[] #[.pointer (some ⟨Bm, 0, none⟩)]] w fun e w' => ∃ (v : Value) (rs : List Rec), e = .returned v ∧ AllR D0 rs ∧ w'.ownsRow w.heap.size 42 7 v rs.length (rs.flatMap rcC) ∧ Below w.heap.size w w' := by
  have hro : Fence.wide.round = none := rfl
  have h1 : 1 ≤ n := by omega
  obtain ⟨i0, hi, hz0, hz1, hz2⟩ := info_parts prec_infos
  refine callsIn_of_wp_marks Try.func34 rfl trivial ?_ hro
  simp only [Try.ntmps34, List.size_toArray, List.length_cons, List.length_nil, Nat.reduceAdd, Nat.reduceSub, Array.replicate_succ, Array.replicate_zero, List.push_toArray, List.append_toArray, List.nil_append, List.cons_append]
  gi_wp2
  have bO := Boxed.new w 22 (.slice none 0 0)
  have hB0 : Below w.heap.size w (w.alloc (.cells #[.slice none 0 0] 22)) := below1 _ _
  refine wpIn_rangeFunc_ownH hro h1 (gf := 31) (lb := #[.pointer (some ⟨Bm, 0, none⟩)]) rfl trivial (enters_of Try.func31 (by kernel_rfl) rfl)
    (vals_stops (n - 1) (by omega) Bm b nn D0 hK0 w K hown) walksK_t walksK_b hB0 (fun _ => rfl)
    (fun (pre : List Rec) W => (∃ v, Boxed W w.heap.size 22 v ∧ W.ownsRow w.heap.size 42 7 v pre.length (pre.flatMap rcC) ∧ True) ∧ Below w.heap.size w W)
    (fun _ _ _ => False)
    (OwnFrom.and (Own.from (holdsRow_own w.heap.size w.heap.size 22 42 7 (fun pre : List Rec => pre.length) (fun pre : List Rec => pre.flatMap rcC) (fun pre v => True)) _) (ownFrom_below (Nat.le_refl _) (by simp)))
    (fun _ _ _ _ _ hs _ _ => hs)
    ⟨⟨_, bO, World.ownsRow_nil _ _ _ _, trivial⟩, hB0⟩
    (fun r a' W => ∃ B, w.heap.size < B ∧ Sp.Blk W B 42 (rcA r) ∧ a' = { tmps := #[.slice none 0 0, .func (.func 31) #[] #[.pointer (some ⟨Bm, 0, none⟩)], .pointer (some ⟨w.heap.size, 0, none⟩), undef, .slice none 0 0, .pointer (some ⟨B, 0, none⟩), .func (.func 31) #[] #[.pointer (some ⟨Bm, 0, none⟩)], .agg (rcA r), undef, undef, undef, undef, undef], defers := [] })
    (fun r a' => ?ax) ?assign ?body ?done ?stop
  case ax =>
    rintro s X Y row ⟨B, hB, hk, e⟩ hg hrow
    exact ⟨B, hB, (blk_own (β := Unit) B _ _).from _ () X Y row hk hg hrow, e⟩
  case assign =>
    rintro l pre r W K' hI hK
    obtain ⟨⟨v, hv, hrow, _⟩, hB⟩ := hI
    gi_wp2
    have hg := World.grownBy_alloc W (.cells (rcA r) 42) none
    refine hK _ (W.alloc (.cells (rcA r) 42)) (KeepsFrom.of_grownBy hg (fun j e => by cases e)) (KeepsWalks.alloc _ _) ⟨⟨v, hv.alloc _, hrow.alloc _, trivial⟩, hB.alloc hB.size _⟩ ⟨W.heap.size, hv.lt, Sp.Blk.new W _ _, rfl⟩
  case body =>
    rintro l pre r a' W hl0 hl ⟨⟨v, hv, hrow, _⟩, hB⟩ ⟨B, hBB, hbk, rfl⟩ hlt
    have hc := hv.cell
    have RB := RC.blk hbk
    have x0 := RB.c0
    have x1 := RB.c1
    have x2 := RB.c2
    have x3 := RB.c3
    have x4 := RB.c4
    have x5 := RB.c5
    have x6 := RB.c6
    gi_wp2_with (gi_at_builtin; refine wpListIn_append_own _ rfl _ _ 22 rfl w.heap.size 42 i0 _ 7 72 Try.underlying22 hi hz0 hz1 hz2 rfl (by decide) _ _ _ rfl (hrow.alloc _) ⟨W.heap.size, 0, none⟩ 1 1 (rcC r) rfl rfl (new_cells W 42 (rcC r)) (rc_one r) (by simp only [maxLen]; omega) (by omega) (by have := hB.size; simp; omega) ?_; intro v' w1 hown' hgrow _; obtain ⟨g', cap', rfl⟩ := ownsRow_succ hown'; obtain ⟨hv1, hv2, hr2, hk2, hb2⟩ := hv.appended (by decide) hrow hB.size (Nat.le_refl _) hown' hgrow; have hc1 := hv1.cell; have hf1 := hv1.frozen)
    exact ⟨hk2.from _, ⟨hk2.size, fun k o hk ho => hk2.same k o hk (Obj.not_cells_of_walk ho)⟩, ⟨_, hv2, by simpa using hr2, trivial⟩, hB.trans hb2⟩
  case done =>
    rintro D ys W hD hA ⟨⟨v, hv, hrow, _⟩, hB⟩ hK
    have hc := hv.cell
    gi_wp2
    refine ⟨by simp, .inl ⟨_, _, rfl, run_takeDeferred hK, ?_⟩⟩
    exact ⟨_, results_tmp rfl _ _ _, v, ys, rfl, hA, ownsRow_putObj hrow _ hK rfl, hB.trans (belowK_b (w := w) (Nat.le_refl _) W D _ _ (by simp at hD; omega) hK rfl rfl)⟩
  case stop =>
    rintro D c pre W _ _ h _
    exact h.elim
theorem rcollect_any (Bm b nn : Nat) (D0 : DataW Rec) (hK0 : OwnK D0) (w : World) (K : Sp.Blk w Bm 52 #[.map (some b)]) (hown : w.ownsMap Try.prog 9 recR b nn D0) (hnn : Maps.size D0 ≤ 200) :
    Calls Try.prog 29 #[.func (.func 31) #[] #[.pointer (some ⟨Bm, 0, none⟩)]] w fun e w' => ∃ (v : Value) (rs : List Rec), e = .returned v ∧ AllR D0 rs ∧ w'.ownsRow w.heap.size 42 7 v rs.length (rs.flatMap rcC) ∧ Below w.heap.size w w' := by
  have H := Lib.hid (callsIn_wide.1 (rappseq_in 3 (by omega) Bm b nn D0 hK0 w K hown hnn))
  clear K hown
  go_enter Try.func29, Try.ntmps29
  go_wp2_with fail
  refine H.out.mono ?_
  rintro e w1 ⟨v, rs, rfl, hA, h1, hb⟩
  have HA := Lib.hid hA
  have H1 := Lib.hid h1
  have HB := Lib.hid hb
  clear hA h1 hb
  go_wp2_with fail
  go_ret
  exact ⟨v, rs, rfl, HA.out, H1.out, HB.out⟩
end Go.Proofs.Ytckakkocblkcoaa.Re
