/- Contract of table's lowestFree: the lowest free segment, and whether there is one; no memory that was there is changed. -/
import Derived.Test.YtpgbbbgblgkokaaTbH
namespace Go.Proofs.Ytpgbbbgblgkokaa
open Go.RowKit Go.Lib Go.Shelf
set_option linter.unusedVariables false

attribute [local go_sem] Oper.semAt_some

theorem cell_new_l (w : World) (v : Value) (t : TypeId) : (w.alloc (.cells #[v] t)).cell? ⟨w.heap.size, 0, none⟩ = some v ∧ (w.alloc (.cells #[v] t)).frozen? ⟨w.heap.size, 0, none⟩ = false :=
  ⟨(Blk.new w t #[v]).cell 0, (Blk.new w t #[v]).frozen 0⟩

def LowP (l : List Int) (w : World) (en : Ending) (w' : World) : Prop := en = .returned (.tuple #[.int .i64 (l.headD 0), .bool (!l.isEmpty)]) ∧ Below w.heap.size w w'

theorem res_low {fn : Func} {p' q' : Tmp} (h : fn.results = #[.cell p' 3, .cell q' 4]) (tmps : Array Value) (W : World) (b b' : Nat) {x y : Value} (hp : tmps.getD p' undef = .pointer (some ⟨b, 0, none⟩)) (hq : tmps.getD q' undef = .pointer (some ⟨b', 0, none⟩)) (L : W.cell? ⟨b, 0, none⟩ = some x) (M : W.cell? ⟨b', 0, none⟩ = some y) :
    (results fn tmps).run Try.prog W = .ok (.tuple #[x, y]) W := by
  have hp' : tmps[p']?.getD undef = .pointer (some ⟨b, 0, none⟩) := by simpa using hp
  have hq' : tmps[q']?.getD undef = .pointer (some ⟨b', 0, none⟩) := by simpa using hq
  simp [results, h, hp', hq', asAddr, go_sem, L, M]

set_option maxRecDepth 100000 in
set_option maxHeartbeats 2000000 in
theorem low_in (n : Nat) (hn : 3 ≤ n) (N : Nat) (st : Int) (A : Option Addr) (m p : Nat) (B : Option Addr) (k q : Nat) (C : Option Addr) (n0 r : Nat) (o : List Int) (w : World) (hS : Sl .i64 w A m o) (hm : m ≤ maxLen) (hN : N ≤ 16) :
    CallsIn Fence.wide n Try.prog 47 #[.agg #[.int .i64 (N : Int), .int .i64 st, .slice A m p, .slice B k q, .slice C n0 r]] w (LowP (freeTo o N) w) := by
  have hro : Fence.wide.round = none := rfl
  have h1 : 1 ≤ n := by omega
  obtain ⟨w1, E1⟩ : ∃ w1, Hid (w.alloc (.cells #[.int .i64 (N : Int), .int .i64 st, .slice A m p, .slice B k q, .slice C n0 r] 28) = w1) := ⟨_, Lib.hid rfl⟩
  have K1 : Blk w1 w.heap.size 28 (csT (N : Int) st A m p B k q C n0 r) := by rw [← E1.out]; exact Blk.new w _ _
  have z1 : w1.heap.size = w.heap.size + 1 := by rw [← E1.out]; simp
  have B1 : Below w.heap.size w w1 := by rw [← E1.out]; exact below1 _ _
  have r0 := cell_new_l w1 (.int .i64 0) 3
  have r1 := cell_new_l (w1.alloc (.cells #[.int .i64 0] 3)) (.bool false) 4
  obtain ⟨w3, E3⟩ : ∃ w3, Hid ((w1.alloc (.cells #[.int .i64 0] 3)).alloc (.cells #[.bool false] 4) = w3) := ⟨_, Lib.hid rfl⟩
  have z3 : w3.heap.size = w.heap.size + 1 + 1 + 1 := by rw [← E3.out]; simp [z1]
  have B13 : Below w1.heap.size w1 w3 := by rw [← E3.out]; exact Ge.trans (below1 _ _) (below1 _ _)
  have c1 : w3.cell? ⟨w.heap.size + 1, 0, none⟩ = some (.int .i64 0) := by rw [← z1, ← E3.out]; exact ((below1 (w1.alloc (.cells #[.int .i64 0] 3)) _).cell (p := ⟨w1.heap.size, 0, none⟩) (by simp)).trans r0.1
  have f1 : w3.frozen? ⟨w.heap.size + 1, 0, none⟩ = false := by rw [← z1, ← E3.out]; exact ((below1 (w1.alloc (.cells #[.int .i64 0] 3)) _).frozen (p := ⟨w1.heap.size, 0, none⟩) (by simp)).trans r0.2
  have c2 : w3.cell? ⟨w.heap.size + 1 + 1, 0, none⟩ = some (.bool false) := by rw [← z1, ← E3.out]; rw [World.size_alloc] at r1; exact r1.1
  have f2 : w3.frozen? ⟨w.heap.size + 1 + 1, 0, none⟩ = false := by rw [← z1, ← E3.out]; rw [World.size_alloc] at r1; exact r1.2
  have K3 := K1.later B13
  have B3 := Ge.trans B1 B13
  obtain ⟨w4, E4⟩ : ∃ w4, Hid (w3.alloc (.cells #[.int .i64 (N : Int), .int .i64 st, .slice A m p, .slice B k q, .slice C n0 r] 28) = w4) := ⟨_, Lib.hid rfl⟩
  have B34 : Below w3.heap.size w3 w4 := by rw [← E4.out]; exact below1 _ _
  have K4 : Blk w4 (w.heap.size + 1 + 1 + 1) 28 (csT (N : Int) st A m p B k q C n0 r) := by rw [← E4.out]; exact Blk.at_ _ _ _ z3
  have z4 : w4.heap.size = w.heap.size + 1 + 1 + 1 + 1 := by rw [← E4.out]; simp [z3]
  have B4 := Ge.trans B3 B34
  have c14 := ((bcell B34).1 (w.heap.size + 1) 0 (by omega)).trans c1
  have f14 := ((bcell B34).2 (w.heap.size + 1) 0 (by omega)).trans f1
  have c24 := ((bcell B34).1 (w.heap.size + 1 + 1) 0 (by omega)).trans c2
  have f24 := ((bcell B34).2 (w.heap.size + 1 + 1) 0 (by omega)).trans f2
  have S4 := hS.later B4
  have HF : Hid (∀ w, Calls Try.prog 42 #[.agg #[.int .i64 (N : Int), .int .i64 st, .slice A m p, .slice B k q, .slice C n0 r]] w _) := Lib.hid (fun w => free_is (N : Int) st A m p B k q C n0 r w)
  have HK3 := Lib.hid K3
  have i1 : w3.cell? ⟨w.heap.size, 0, none⟩ = some (.int .i64 (N : Int)) := K3.cell 0
  have i2 : w3.cell? ⟨w.heap.size, 1, none⟩ = some (.int .i64 st) := K3.cell 1
  have i3 : w3.cell? ⟨w.heap.size, 2, none⟩ = some (.slice A m p) := K3.cell 2
  have i4 : w3.cell? ⟨w.heap.size, 3, none⟩ = some (.slice B k q) := K3.cell 3
  have i5 : w3.cell? ⟨w.heap.size, 4, none⟩ = some (.slice C n0 r) := K3.cell 4
  clear c1 f1 c2 f2 r0 r1 K1 B1 B13 K3 B3 hS
  refine callsIn_of_wp_marks Try.func47 rfl trivial ?_ hro
  simp only [Try.ntmps47, List.size_toArray, List.length_cons, List.length_nil, Nat.reduceAdd, Nat.reduceSub, Array.replicate_succ, Array.replicate_zero, List.push_toArray, List.append_toArray, List.nil_append, List.cons_append]
  gi_wp2_with (refine And.intro (a := True) trivial ?_; gi_at_call 42; refine (callsIn_wide.2 (HF.out _)).mono ?_; rintro e w' ⟨rfl, rfl⟩)
  rw [E1.out, E3.out, E4.out]
  clear i1 i2 i3 i4 i5 HF HK3 B34 E1 E3 E4 z1 z3
  refine wpIn_rangeFunc_ownG hro h1 (gf := 53) (lb := #[.pointer (some ⟨w.heap.size + 1 + 1 + 1, 0, none⟩)]) rfl trivial (enters_of Try.func53 (by kernel_rfl) rfl)
    (free_stops (n - 1) (by omega) (w.heap.size + 1 + 1 + 1) N st A m p B k q C n0 r o w4 K4 S4 hm hN) belowK_t (belowK_b (Nat.le_refl _)) (Below.refl _ _) (fun _ => rfl)
    (fun pre W => (pre = [] ∧ W.cell? ⟨w.heap.size + 1, 0, none⟩ = some (.int .i64 0) ∧ W.frozen? ⟨w.heap.size + 1, 0, none⟩ = false ∧ W.cell? ⟨w.heap.size + 1 + 1, 0, none⟩ = some (.bool false) ∧ W.frozen? ⟨w.heap.size + 1 + 1, 0, none⟩ = false) ∧ Below w.heap.size w W)
    (fun c pre W => (c = .ret ∧ ∃ s, pre = [s] ∧ W.cell? ⟨w.heap.size + 1, 0, none⟩ = some (.int .i64 s) ∧ W.cell? ⟨w.heap.size + 1 + 1, 0, none⟩ = some (.bool true)) ∧ Below w.heap.size w W)
    (OwnFrom.and (Own.from (fun s A B row hs hg hr => ⟨hs.1, cell_kept hs.2.1 hg hr, (frozen_kept hs.2.1 hg hr).trans hs.2.2.1, cell_kept hs.2.2.2.1 hg hr, (frozen_kept hs.2.2.2.1 hg hr).trans hs.2.2.2.2⟩) _) (ownFrom_below (Nat.le_refl _) (by omega)))
    (fun c => OwnFrom.and (Own.from (fun s A B row hs hg hr => ⟨hs.1, hs.2.choose, hs.2.choose_spec.1, cell_kept hs.2.choose_spec.2.1 hg hr, cell_kept hs.2.choose_spec.2.2 hg hr⟩) _) (ownFrom_below (Nat.le_refl _) (by omega)))
    ⟨⟨rfl, c14, f14, c24, f24⟩, B4⟩
    (fun x => { tmps := #[.agg #[.int .i64 (N : Int), .int .i64 st, .slice A m p, .slice B k q, .slice C n0 r], .pointer (some ⟨w.heap.size, 0, none⟩), .pointer (some ⟨w.heap.size + 1, 0, none⟩), .pointer (some ⟨w.heap.size + 1 + 1, 0, none⟩), .int .i64 x, .agg #[.int .i64 (N : Int), .int .i64 st, .slice A m p, .slice B k q, .slice C n0 r], .func (.func 53) #[] #[.pointer (some ⟨w.heap.size + 1 + 1 + 1, 0, none⟩)], .int .i64 x, undef], defers := [] }) ?assign ?body ?done ?stop
  case assign =>
    intro l x W K hK
    gi_wp2
    exact hK
  case body =>
    rintro l pre x W ⟨⟨rfl, hc1, hf1, hc2, hf2⟩, hB⟩ _
    have s1 : (W.setCell ⟨w.heap.size + 1, 0, none⟩ (.int .i64 x)).cell? ⟨w.heap.size + 1, 0, none⟩ = some (.int .i64 x) := World.cell?_setCell_same' _ _ _ (by rw [hc1]; rfl)
    have s2 : (W.setCell ⟨w.heap.size + 1, 0, none⟩ (.int .i64 x)).cell? ⟨w.heap.size + 1 + 1, 0, none⟩ = some (.bool false) := by
      rw [World.cell?_setCell_other _ _ _ _ (by intro hh; injection hh with hh; omega)]; exact hc2
    have s3 : ((W.setCell ⟨w.heap.size + 1, 0, none⟩ (.int .i64 x)).setCell ⟨w.heap.size + 1 + 1, 0, none⟩ (.bool true)).cell? ⟨w.heap.size + 1, 0, none⟩ = some (.int .i64 x) := by
      rw [World.cell?_setCell_other _ _ _ _ (by intro hh; injection hh with hh; omega)]; exact s1
    have s4 : ((W.setCell ⟨w.heap.size + 1, 0, none⟩ (.int .i64 x)).setCell ⟨w.heap.size + 1 + 1, 0, none⟩ (.bool true)).cell? ⟨w.heap.size + 1 + 1, 0, none⟩ = some (.bool true) := World.cell?_setCell_same' _ _ _ (by rw [s2]; rfl)
    have H3 := Lib.hid s3
    have H4 := Lib.hid s4
    clear s1 s2 s3 s4
    gi_wp2
    exact ⟨((KeepsOthers.setCell _ _ _).trans (KeepsOthers.setCell _ _ _)).from _, ⟨rfl, x, rfl, H3.out, H4.out⟩, Below.setCell (p := ⟨w.heap.size + 1 + 1, 0, none⟩) (Below.setCell (p := ⟨w.heap.size + 1, 0, none⟩) hB (by simp) _) (by simp; omega) _⟩
  case done =>
    rintro D ys W hD rfl ⟨⟨he, hc1, hf1, hc2, hf2⟩, hB⟩ hK
    have s1 : (W.setCell ⟨w.heap.size + 1, 0, none⟩ (.int .i64 0)).cell? ⟨w.heap.size + 1, 0, none⟩ = some (.int .i64 0) := World.cell?_setCell_same' _ _ _ (by rw [hc1]; rfl)
    have s2 : (W.setCell ⟨w.heap.size + 1, 0, none⟩ (.int .i64 0)).cell? ⟨w.heap.size + 1 + 1, 0, none⟩ = some (.bool false) := by
      rw [World.cell?_setCell_other _ _ _ _ (by intro hh; injection hh with hh; omega)]; exact hc2
    have s3 : ((W.setCell ⟨w.heap.size + 1, 0, none⟩ (.int .i64 0)).setCell ⟨w.heap.size + 1 + 1, 0, none⟩ (.bool false)).cell? ⟨w.heap.size + 1, 0, none⟩ = some (.int .i64 0) := by
      rw [World.cell?_setCell_other _ _ _ _ (by intro hh; injection hh with hh; omega)]; exact s1
    have s4 : ((W.setCell ⟨w.heap.size + 1, 0, none⟩ (.int .i64 0)).setCell ⟨w.heap.size + 1 + 1, 0, none⟩ (.bool false)).cell? ⟨w.heap.size + 1 + 1, 0, none⟩ = some (.bool false) := World.cell?_setCell_same' _ _ _ (by rw [s2]; rfl)
    have H3 := Lib.hid s3
    have H4 := Lib.hid s4
    have HE := Lib.hid he
    have hK' := ((KeepsOthers.setCell W ⟨w.heap.size + 1, 0, none⟩ (.int .i64 0)).trans (KeepsOthers.setCell _ ⟨w.heap.size + 1 + 1, 0, none⟩ (.bool false))).same D _ hK rfl
    have HK := Lib.hid hK'
    have HB : Hid (Below w.heap.size w ((W.setCell ⟨w.heap.size + 1, 0, none⟩ (.int .i64 0)).setCell ⟨w.heap.size + 1 + 1, 0, none⟩ (.bool false))) := Lib.hid (Below.setCell (p := ⟨w.heap.size + 1 + 1, 0, none⟩) (Below.setCell (p := ⟨w.heap.size + 1, 0, none⟩) hB (by simp) _) (by simp; omega) _)
    clear s1 s2 s3 s4 hK' he hB
    gi_wp2
    refine ⟨by simp, .inl ⟨_, _, rfl, run_takeDeferred HK.out, ?_⟩⟩
    have g1 := cell_kept H3.out (grownBy_putObj' _ D (.deferred none)) (fun r e => by cases e; exact ⟨_, HK.out, rfl⟩)
    have g2 := cell_kept H4.out (grownBy_putObj' _ D (.deferred none)) (fun r e => by cases e; exact ⟨_, HK.out, rfl⟩)
    exact ⟨_, res_low rfl _ _ (w.heap.size + 1) (w.heap.size + 1 + 1) rfl rfl g1 g2, by rw [HE.out]; rfl, HB.out.trans (belowK_b (w := w) (Nat.le_refl _) _ D _ _ (by omega) HK.out rfl rfl)⟩
  case stop =>
    rintro D c pre W hD hpre ⟨⟨rfl, s, rfl, hc1, hc2⟩, hB⟩ hK
    have HC1 := Lib.hid hc1
    have HC2 := Lib.hid hc2
    have HK := Lib.hid hK
    have HP := Lib.hid hpre
    clear hc1 hc2 hK hpre
    gi_wp2
    refine ⟨by simp, .inl ⟨_, _, rfl, run_takeDeferred HK.out, ?_⟩⟩
    have g1 := cell_kept HC1.out (grownBy_putObj' _ D (.deferred none)) (fun r e => by cases e; exact ⟨_, HK.out, rfl⟩)
    have g2 := cell_kept HC2.out (grownBy_putObj' _ D (.deferred none)) (fun r e => by cases e; exact ⟨_, HK.out, rfl⟩)
    refine ⟨_, res_low rfl _ _ (w.heap.size + 1) (w.heap.size + 1 + 1) rfl rfl g1 g2, ?_, hB.trans (belowK_b (w := w) (Nat.le_refl _) W D _ _ (by omega) HK.out rfl rfl)⟩
    obtain ⟨t, ht⟩ := HP.out
    rw [← ht]
    rfl

theorem low_any (sg st : Int) (A : Option Addr) (m p : Nat) (B : Option Addr) (k q : Nat) (C : Option Addr) (n r : Nat) (o : List Int) (w : World) (hS : Sl .i64 w A m o) (hm : m ≤ maxLen) (hs : 0 ≤ sg ∧ sg ≤ 16) : Calls Try.prog 47 #[.agg #[.int .i64 sg, .int .i64 st, .slice A m p, .slice B k q, .slice C n r]] w (LowP (freeTo o sg.toNat) w) := by
  obtain ⟨N, rfl⟩ := Int.eq_ofNat_of_zero_le hs.1
  exact callsIn_wide.1 (low_in 3 (by omega) N st A m p B k q C n r o w hS hm (by omega))
end Go.Proofs.Ytpgbbbgblgkokaa
