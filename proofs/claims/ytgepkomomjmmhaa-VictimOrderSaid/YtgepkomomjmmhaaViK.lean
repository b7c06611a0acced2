/- What the program's three calls must do; the fixed calls. -/
import Derived.Test.YtgepkomomjmmhaaViE
namespace Go.Proofs.Ytgepkomomjmmhaa.Vi
open Go.ChangeShapes Go.WideShapes Go.ChangeAt Go.RowKit Go.Lib Go.Joins Go.Deep
open Sp
set_option linter.unusedVariables false
set_option maxRecDepth 100000

/-- A number of 64 bits. -/
def I64 (n : Int) : Prop := -9223372036854775808 ≤ n ∧ n ≤ 9223372036854775807
/-- What the program must do. -/
structure Prg : Prop where
  bt : ∀ (a b : Cd) (w : World), CIn a → CIn b → Calls Try.prog 10 #[.agg (cdA5 a), .agg (cdA5 b)] w fun e w' => e = .returned (.bool (better a b)) ∧ Below w.heap.size w w'
  pk : ∀ (A : Option Addr) (n p : Nat) (L : List Cd) (room : Int) (w : World), CR w A n L → n ≤ 20 → n ≤ p → (∀ x ∈ L, CIn x) → I64 room → Calls Try.prog 13 #[.slice A n p, .int .i64 room] w fun e w' => e = .returned (.int .i64 (pick L room)) ∧ Below w.heap.size w w'
  od : ∀ (A : Option Addr) (n p : Nat) (L : List Cd) (w : World), CR w A n L → n ≤ 19 → n ≤ p → (∀ x ∈ L, CIn x) → Calls Try.prog 17 #[.slice A n p] w fun e w' => ∃ A' p', e = .returned (.slice A' n p') ∧ VR w' A' n (iv (order L)) ∧ Below w.heap.size w w'

def fxa : Cd := ⟨0, 10, 2, 0, 5⟩
def fxb : Cd := ⟨0, 10, 5, 0, 5⟩
def fxc : Cd := ⟨0, 4, 0, 3, 5⟩
theorem fx_in : CIn fxa ∧ CIn fxb ∧ CIn fxc := by
  refine ⟨⟨?_, ?_, ?_, ?_, ?_⟩, ⟨?_, ?_, ?_, ?_, ?_⟩, ⟨?_, ?_, ?_, ?_, ?_⟩⟩ <;> (try unfold COk) <;> decide
set_option maxHeartbeats 8000000 in
theorem fixed_any (P : Prg) (w : World) : Calls Try.prog 19 #[] w fun e w' => e = .returned (.bool true) ∧ Below w.heap.size w w' := by
  have b1 : better fxa fxb = true := by decide
  have b2 : better fxb fxa = false := by decide
  have b3 : better fxa fxc = false := by decide
  have b4 : better fxc fxa = true := by decide
  have b5 : better fxa fxa = false := by decide
  have p1 : pick [fxb, fxa, fxc, fxa] 3 = 2 := by decide
  have p2 : pick [fxb, fxa, fxc, fxa] 2 = 1 := by decide
  have p3 : pick [fxb, fxa, fxc, fxa] (-1) = -1 := by decide
  have p4 : pick [] 5 = -1 := by decide
  have o1 : order [fxb, fxa, fxc, fxa] = [2, 1, 3, 0] := by decide
  have IA := fx_in.1
  have IB := fx_in.2.1
  have IC := fx_in.2.2
  obtain ⟨n1, hn1⟩ : ∃ n1, w.heap.size = n1 := ⟨_, rfl⟩
  obtain ⟨W, hW⟩ : ∃ W, (((w.alloc (.cells #[.int .i64 0, .int .i64 10, .int .i64 2, .int .i64 0, .int .u64 5] 25)).alloc (.cells #[.int .i64 0, .int .i64 10, .int .i64 5, .int .i64 0, .int .u64 5] 25)).alloc (.cells #[.int .i64 0, .int .i64 4, .int .i64 0, .int .i64 3, .int .u64 5] 25)).alloc (.cells #[.int .i64 0, .int .i64 10, .int .i64 5, .int .i64 0, .int .u64 5, .int .i64 0, .int .i64 10, .int .i64 2, .int .i64 0, .int .u64 5, .int .i64 0, .int .i64 4, .int .i64 0, .int .i64 3, .int .u64 5, .int .i64 0, .int .i64 10, .int .i64 2, .int .i64 0, .int .u64 5] 25) = W := ⟨_, rfl⟩
  have HB := Lib.hid (show Below w.heap.size w W by rw [← hW]; exact ((((Below.refl _ _).alloc (Nat.le_refl _) _).alloc (by simp) _).alloc (by simp; omega) _).alloc (by simp; omega) _)
  have BA : Hid (Sp.Blk W n1 25 (cdA5 fxa)) := Lib.hid (by rw [← hW, ← hn1]; exact (((Sp.Blk.new w 25 (cdA5 fxa)).later (below1 _ _)).later (below1 _ _)).later (below1 _ _))
  have BB : Hid (Sp.Blk W (n1 + 1) 25 (cdA5 fxb)) := Lib.hid (by rw [← hW, ← hn1]; exact ((Sp.Blk.at_ _ _ (cdA5 fxb) (by simp)).later (below1 _ _)).later (below1 _ _))
  have BC : Hid (Sp.Blk W (n1 + 1 + 1) 25 (cdA5 fxc)) := Lib.hid (by rw [← hW, ← hn1]; exact (Sp.Blk.at_ _ _ (cdA5 fxc) (by simp)).later (below1 _ _))
  have BS : Hid (CR W (some ⟨n1 + 1 + 1 + 1, 0, none⟩) 4 [fxb, fxa, fxc, fxa]) := Lib.hid ⟨rfl, fun _ => ⟨_, _, rfl, fun i j r hi hj => by
    have hS : Sp.Blk W (n1 + 1 + 1 + 1) 25 #[.int .i64 0, .int .i64 10, .int .i64 5, .int .i64 0, .int .u64 5, .int .i64 0, .int .i64 10, .int .i64 2, .int .i64 0, .int .u64 5, .int .i64 0, .int .i64 4, .int .i64 0, .int .i64 3, .int .u64 5, .int .i64 0, .int .i64 10, .int .i64 2, .int .i64 0, .int .u64 5] := by rw [← hW, ← hn1]; exact Sp.Blk.at_ _ _ _ (by simp)
    rw [hS.cell, Nat.zero_add]
    match i, hi with
    | 0, hi => injection hi with hi; subst hi; match j, hj with | 0, _ => rfl | 1, _ => rfl | 2, _ => rfl | 3, _ => rfl | 4, _ => rfl
    | 1, hi => injection hi with hi; subst hi; match j, hj with | 0, _ => rfl | 1, _ => rfl | 2, _ => rfl | 3, _ => rfl | 4, _ => rfl
    | 2, hi => injection hi with hi; subst hi; match j, hj with | 0, _ => rfl | 1, _ => rfl | 2, _ => rfl | 3, _ => rfl | 4, _ => rfl
    | 3, hi => injection hi with hi; subst hi; match j, hj with | 0, _ => rfl | 1, _ => rfl | 2, _ => rfl | 3, _ => rfl | 4, _ => rfl⟩⟩
  have LIN : Hid (∀ x ∈ [fxb, fxa, fxc, fxa], CIn x) := Lib.hid (by
    intro x hx
    simp only [List.mem_cons, List.not_mem_nil, or_false] at hx
    rcases hx with rfl | rfl | rfl | rfl
    · exact IB
    · exact IA
    · exact IC
    · exact IA)
  have B1 : Hid (∀ X, Calls Try.prog 10 #[.agg #[.int .i64 0, .int .i64 10, .int .i64 2, .int .i64 0, .int .u64 5], .agg #[.int .i64 0, .int .i64 10, .int .i64 5, .int .i64 0, .int .u64 5]] X fun e w' => e = .returned (.bool true) ∧ Below X.heap.size X w') := Lib.hid (fun X => by rw [← b1]; exact P.bt fxa fxb X IA IB)
  have B2 : Hid (∀ X, Calls Try.prog 10 #[.agg #[.int .i64 0, .int .i64 10, .int .i64 5, .int .i64 0, .int .u64 5], .agg #[.int .i64 0, .int .i64 10, .int .i64 2, .int .i64 0, .int .u64 5]] X fun e w' => e = .returned (.bool false) ∧ Below X.heap.size X w') := Lib.hid (fun X => by rw [← b2]; exact P.bt fxb fxa X IB IA)
  have B3 : Hid (∀ X, Calls Try.prog 10 #[.agg #[.int .i64 0, .int .i64 10, .int .i64 2, .int .i64 0, .int .u64 5], .agg #[.int .i64 0, .int .i64 4, .int .i64 0, .int .i64 3, .int .u64 5]] X fun e w' => e = .returned (.bool false) ∧ Below X.heap.size X w') := Lib.hid (fun X => by rw [← b3]; exact P.bt fxa fxc X IA IC)
  have B4 : Hid (∀ X, Calls Try.prog 10 #[.agg #[.int .i64 0, .int .i64 4, .int .i64 0, .int .i64 3, .int .u64 5], .agg #[.int .i64 0, .int .i64 10, .int .i64 2, .int .i64 0, .int .u64 5]] X fun e w' => e = .returned (.bool true) ∧ Below X.heap.size X w') := Lib.hid (fun X => by rw [← b4]; exact P.bt fxc fxa X IC IA)
  have B5 : Hid (∀ X, Calls Try.prog 10 #[.agg #[.int .i64 0, .int .i64 10, .int .i64 2, .int .i64 0, .int .u64 5], .agg #[.int .i64 0, .int .i64 10, .int .i64 2, .int .i64 0, .int .u64 5]] X fun e w' => e = .returned (.bool false) ∧ Below X.heap.size X w') := Lib.hid (fun X => by rw [← b5]; exact P.bt fxa fxa X IA IA)
  have P1 : Hid (∀ X, Below W.heap.size W X → Calls Try.prog 13 #[.slice (some ⟨n1 + 1 + 1 + 1, 0, none⟩) 4 4, .int .i64 3] X fun e w' => e = .returned (.int .i64 2) ∧ Below X.heap.size X w') := Lib.hid (fun X hX => by rw [← p1]; exact P.pk _ _ _ _ _ X (BS.out.later hX) (by decide) (by decide) LIN.out (by unfold I64; decide))
  have P2 : Hid (∀ X, Below W.heap.size W X → Calls Try.prog 13 #[.slice (some ⟨n1 + 1 + 1 + 1, 0, none⟩) 4 4, .int .i64 2] X fun e w' => e = .returned (.int .i64 1) ∧ Below X.heap.size X w') := Lib.hid (fun X hX => by rw [← p2]; exact P.pk _ _ _ _ _ X (BS.out.later hX) (by decide) (by decide) LIN.out (by unfold I64; decide))
  have P3 : Hid (∀ X, Below W.heap.size W X → Calls Try.prog 13 #[.slice (some ⟨n1 + 1 + 1 + 1, 0, none⟩) 4 4, .int .i64 (-1)] X fun e w' => e = .returned (.int .i64 (-1)) ∧ Below X.heap.size X w') := Lib.hid (fun X hX => by rw [← p3]; exact P.pk _ _ _ _ _ X (BS.out.later hX) (by decide) (by decide) LIN.out (by unfold I64; decide))
  have P4 : Hid (∀ X, Calls Try.prog 13 #[.slice none 0 0, .int .i64 5] X fun e w' => e = .returned (.int .i64 (-1)) ∧ Below X.heap.size X w') := Lib.hid (fun X => by rw [← p4]; exact P.pk _ _ _ _ _ X (CR.nil X none) (by decide) (by decide) (by simp) (by unfold I64; decide))
  have O1 : Hid (∀ X, Below W.heap.size W X → Calls Try.prog 17 #[.slice (some ⟨n1 + 1 + 1 + 1, 0, none⟩) 4 4] X fun e w' => ∃ A' p', e = .returned (.slice A' 4 p') ∧ VR w' A' 4 (iv [2, 1, 3, 0]) ∧ Below X.heap.size X w') := Lib.hid (fun X hX => by rw [← o1]; exact P.od _ _ _ _ X (BS.out.later hX) (by decide) (by decide) LIN.out)
  clear b1 b2 b3 b4 b5 p1 p2 p3 p4 o1 IA IB IC
  go_enter Try.func19, Try.ntmps19
  go_upto_region 3 with fail
  clear hW hn1
  have H0 : Hid (Below W.heap.size W W) := Lib.hid (Below.refl _ _)
  have ma0 : W.cell? ⟨n1, 0, none⟩ = some (.int .i64 0) := (CC.blk (BA.out.later H0.out)).c0
  have ma1 : W.cell? ⟨n1, 1, none⟩ = some (.int .i64 10) := (CC.blk (BA.out.later H0.out)).c1
  have ma2 : W.cell? ⟨n1, 2, none⟩ = some (.int .i64 2) := (CC.blk (BA.out.later H0.out)).c2
  have ma3 : W.cell? ⟨n1, 3, none⟩ = some (.int .i64 0) := (CC.blk (BA.out.later H0.out)).c3
  have ma4 : W.cell? ⟨n1, 4, none⟩ = some (.int .u64 5) := (CC.blk (BA.out.later H0.out)).c4
  have mb0 : W.cell? ⟨n1 + 1, 0, none⟩ = some (.int .i64 0) := (CC.blk (BB.out.later H0.out)).c0
  have mb1 : W.cell? ⟨n1 + 1, 1, none⟩ = some (.int .i64 10) := (CC.blk (BB.out.later H0.out)).c1
  have mb2 : W.cell? ⟨n1 + 1, 2, none⟩ = some (.int .i64 5) := (CC.blk (BB.out.later H0.out)).c2
  have mb3 : W.cell? ⟨n1 + 1, 3, none⟩ = some (.int .i64 0) := (CC.blk (BB.out.later H0.out)).c3
  have mb4 : W.cell? ⟨n1 + 1, 4, none⟩ = some (.int .u64 5) := (CC.blk (BB.out.later H0.out)).c4
  have mc0 : W.cell? ⟨n1 + 1 + 1, 0, none⟩ = some (.int .i64 0) := (CC.blk (BC.out.later H0.out)).c0
  have mc1 : W.cell? ⟨n1 + 1 + 1, 1, none⟩ = some (.int .i64 4) := (CC.blk (BC.out.later H0.out)).c1
  have mc2 : W.cell? ⟨n1 + 1 + 1, 2, none⟩ = some (.int .i64 0) := (CC.blk (BC.out.later H0.out)).c2
  have mc3 : W.cell? ⟨n1 + 1 + 1, 3, none⟩ = some (.int .i64 3) := (CC.blk (BC.out.later H0.out)).c3
  have mc4 : W.cell? ⟨n1 + 1 + 1, 4, none⟩ = some (.int .u64 5) := (CC.blk (BC.out.later H0.out)).c4
  have VN : Hid (∀ X : World, VR (X.alloc (.cells #[.int .i64 2, .int .i64 1, .int .i64 3, .int .i64 0] 3)) (some ⟨X.heap.size, 0, none⟩) 4 (iv [2, 1, 3, 0])) := Lib.hid (fun X => ⟨rfl, fun _ => ⟨_, _, rfl, fun i v hi => by
    have hS := Sp.Blk.new X 3 #[.int .i64 2, .int .i64 1, .int .i64 3, .int .i64 0]
    rw [hS.cell, Nat.zero_add]
    simpa [iv] using hi⟩⟩)
  go_wp2_with (first
    | (go_at_call 10; with_reducible refine (B1.out _).mono ?_; rintro e1 w1 ⟨rfl, hb1⟩; have H1 := Lib.hid (H0.out.trans (hb1.mono H0.out.size)); clear hb1 ma0 ma1 ma2 ma3 ma4 mb0 mb1 mb2 mb3 mb4 mc0 mc1 mc2 mc3 mc4;
       have ma0 : w1.cell? ⟨n1, 0, none⟩ = some (.int .i64 0) := (CC.blk (BA.out.later H1.out)).c0;
       have ma1 : w1.cell? ⟨n1, 1, none⟩ = some (.int .i64 10) := (CC.blk (BA.out.later H1.out)).c1;
       have ma2 : w1.cell? ⟨n1, 2, none⟩ = some (.int .i64 2) := (CC.blk (BA.out.later H1.out)).c2;
       have ma3 : w1.cell? ⟨n1, 3, none⟩ = some (.int .i64 0) := (CC.blk (BA.out.later H1.out)).c3;
       have ma4 : w1.cell? ⟨n1, 4, none⟩ = some (.int .u64 5) := (CC.blk (BA.out.later H1.out)).c4;
       have mb0 : w1.cell? ⟨n1 + 1, 0, none⟩ = some (.int .i64 0) := (CC.blk (BB.out.later H1.out)).c0;
       have mb1 : w1.cell? ⟨n1 + 1, 1, none⟩ = some (.int .i64 10) := (CC.blk (BB.out.later H1.out)).c1;
       have mb2 : w1.cell? ⟨n1 + 1, 2, none⟩ = some (.int .i64 5) := (CC.blk (BB.out.later H1.out)).c2;
       have mb3 : w1.cell? ⟨n1 + 1, 3, none⟩ = some (.int .i64 0) := (CC.blk (BB.out.later H1.out)).c3;
       have mb4 : w1.cell? ⟨n1 + 1, 4, none⟩ = some (.int .u64 5) := (CC.blk (BB.out.later H1.out)).c4;
       have mc0 : w1.cell? ⟨n1 + 1 + 1, 0, none⟩ = some (.int .i64 0) := (CC.blk (BC.out.later H1.out)).c0;
       have mc1 : w1.cell? ⟨n1 + 1 + 1, 1, none⟩ = some (.int .i64 4) := (CC.blk (BC.out.later H1.out)).c1;
       have mc2 : w1.cell? ⟨n1 + 1 + 1, 2, none⟩ = some (.int .i64 0) := (CC.blk (BC.out.later H1.out)).c2;
       have mc3 : w1.cell? ⟨n1 + 1 + 1, 3, none⟩ = some (.int .i64 3) := (CC.blk (BC.out.later H1.out)).c3;
       have mc4 : w1.cell? ⟨n1 + 1 + 1, 4, none⟩ = some (.int .u64 5) := (CC.blk (BC.out.later H1.out)).c4)
    | (go_at_call 10; with_reducible refine (B2.out _).mono ?_; rintro e2 w2 ⟨rfl, hb2⟩; have H2 := Lib.hid (H1.out.trans (hb2.mono H1.out.size)); clear hb2 ma0 ma1 ma2 ma3 ma4 mb0 mb1 mb2 mb3 mb4 mc0 mc1 mc2 mc3 mc4;
       have ma0 : w2.cell? ⟨n1, 0, none⟩ = some (.int .i64 0) := (CC.blk (BA.out.later H2.out)).c0;
       have ma1 : w2.cell? ⟨n1, 1, none⟩ = some (.int .i64 10) := (CC.blk (BA.out.later H2.out)).c1;
       have ma2 : w2.cell? ⟨n1, 2, none⟩ = some (.int .i64 2) := (CC.blk (BA.out.later H2.out)).c2;
       have ma3 : w2.cell? ⟨n1, 3, none⟩ = some (.int .i64 0) := (CC.blk (BA.out.later H2.out)).c3;
       have ma4 : w2.cell? ⟨n1, 4, none⟩ = some (.int .u64 5) := (CC.blk (BA.out.later H2.out)).c4;
       have mb0 : w2.cell? ⟨n1 + 1, 0, none⟩ = some (.int .i64 0) := (CC.blk (BB.out.later H2.out)).c0;
       have mb1 : w2.cell? ⟨n1 + 1, 1, none⟩ = some (.int .i64 10) := (CC.blk (BB.out.later H2.out)).c1;
       have mb2 : w2.cell? ⟨n1 + 1, 2, none⟩ = some (.int .i64 5) := (CC.blk (BB.out.later H2.out)).c2;
       have mb3 : w2.cell? ⟨n1 + 1, 3, none⟩ = some (.int .i64 0) := (CC.blk (BB.out.later H2.out)).c3;
       have mb4 : w2.cell? ⟨n1 + 1, 4, none⟩ = some (.int .u64 5) := (CC.blk (BB.out.later H2.out)).c4;
       have mc0 : w2.cell? ⟨n1 + 1 + 1, 0, none⟩ = some (.int .i64 0) := (CC.blk (BC.out.later H2.out)).c0;
       have mc1 : w2.cell? ⟨n1 + 1 + 1, 1, none⟩ = some (.int .i64 4) := (CC.blk (BC.out.later H2.out)).c1;
       have mc2 : w2.cell? ⟨n1 + 1 + 1, 2, none⟩ = some (.int .i64 0) := (CC.blk (BC.out.later H2.out)).c2;
       have mc3 : w2.cell? ⟨n1 + 1 + 1, 3, none⟩ = some (.int .i64 3) := (CC.blk (BC.out.later H2.out)).c3;
       have mc4 : w2.cell? ⟨n1 + 1 + 1, 4, none⟩ = some (.int .u64 5) := (CC.blk (BC.out.later H2.out)).c4)
    | (go_at_call 10; with_reducible refine (B3.out _).mono ?_; rintro e3 w3 ⟨rfl, hb3⟩; have H3 := Lib.hid (H2.out.trans (hb3.mono H2.out.size)); clear hb3 ma0 ma1 ma2 ma3 ma4 mb0 mb1 mb2 mb3 mb4 mc0 mc1 mc2 mc3 mc4;
       have ma0 : w3.cell? ⟨n1, 0, none⟩ = some (.int .i64 0) := (CC.blk (BA.out.later H3.out)).c0;
       have ma1 : w3.cell? ⟨n1, 1, none⟩ = some (.int .i64 10) := (CC.blk (BA.out.later H3.out)).c1;
       have ma2 : w3.cell? ⟨n1, 2, none⟩ = some (.int .i64 2) := (CC.blk (BA.out.later H3.out)).c2;
       have ma3 : w3.cell? ⟨n1, 3, none⟩ = some (.int .i64 0) := (CC.blk (BA.out.later H3.out)).c3;
       have ma4 : w3.cell? ⟨n1, 4, none⟩ = some (.int .u64 5) := (CC.blk (BA.out.later H3.out)).c4;
       have mb0 : w3.cell? ⟨n1 + 1, 0, none⟩ = some (.int .i64 0) := (CC.blk (BB.out.later H3.out)).c0;
       have mb1 : w3.cell? ⟨n1 + 1, 1, none⟩ = some (.int .i64 10) := (CC.blk (BB.out.later H3.out)).c1;
       have mb2 : w3.cell? ⟨n1 + 1, 2, none⟩ = some (.int .i64 5) := (CC.blk (BB.out.later H3.out)).c2;
       have mb3 : w3.cell? ⟨n1 + 1, 3, none⟩ = some (.int .i64 0) := (CC.blk (BB.out.later H3.out)).c3;
       have mb4 : w3.cell? ⟨n1 + 1, 4, none⟩ = some (.int .u64 5) := (CC.blk (BB.out.later H3.out)).c4;
       have mc0 : w3.cell? ⟨n1 + 1 + 1, 0, none⟩ = some (.int .i64 0) := (CC.blk (BC.out.later H3.out)).c0;
       have mc1 : w3.cell? ⟨n1 + 1 + 1, 1, none⟩ = some (.int .i64 4) := (CC.blk (BC.out.later H3.out)).c1;
       have mc2 : w3.cell? ⟨n1 + 1 + 1, 2, none⟩ = some (.int .i64 0) := (CC.blk (BC.out.later H3.out)).c2;
       have mc3 : w3.cell? ⟨n1 + 1 + 1, 3, none⟩ = some (.int .i64 3) := (CC.blk (BC.out.later H3.out)).c3;
       have mc4 : w3.cell? ⟨n1 + 1 + 1, 4, none⟩ = some (.int .u64 5) := (CC.blk (BC.out.later H3.out)).c4)
    | (go_at_call 10; with_reducible refine (B4.out _).mono ?_; rintro e4 w4 ⟨rfl, hb4⟩; have H4 := Lib.hid (H3.out.trans (hb4.mono H3.out.size)); clear hb4 ma0 ma1 ma2 ma3 ma4 mb0 mb1 mb2 mb3 mb4 mc0 mc1 mc2 mc3 mc4;
       have ma0 : w4.cell? ⟨n1, 0, none⟩ = some (.int .i64 0) := (CC.blk (BA.out.later H4.out)).c0;
       have ma1 : w4.cell? ⟨n1, 1, none⟩ = some (.int .i64 10) := (CC.blk (BA.out.later H4.out)).c1;
       have ma2 : w4.cell? ⟨n1, 2, none⟩ = some (.int .i64 2) := (CC.blk (BA.out.later H4.out)).c2;
       have ma3 : w4.cell? ⟨n1, 3, none⟩ = some (.int .i64 0) := (CC.blk (BA.out.later H4.out)).c3;
       have ma4 : w4.cell? ⟨n1, 4, none⟩ = some (.int .u64 5) := (CC.blk (BA.out.later H4.out)).c4;
       have mb0 : w4.cell? ⟨n1 + 1, 0, none⟩ = some (.int .i64 0) := (CC.blk (BB.out.later H4.out)).c0;
       have mb1 : w4.cell? ⟨n1 + 1, 1, none⟩ = some (.int .i64 10) := (CC.blk (BB.out.later H4.out)).c1;
       have mb2 : w4.cell? ⟨n1 + 1, 2, none⟩ = some (.int .i64 5) := (CC.blk (BB.out.later H4.out)).c2;
       have mb3 : w4.cell? ⟨n1 + 1, 3, none⟩ = some (.int .i64 0) := (CC.blk (BB.out.later H4.out)).c3;
       have mb4 : w4.cell? ⟨n1 + 1, 4, none⟩ = some (.int .u64 5) := (CC.blk (BB.out.later H4.out)).c4;
       have mc0 : w4.cell? ⟨n1 + 1 + 1, 0, none⟩ = some (.int .i64 0) := (CC.blk (BC.out.later H4.out)).c0;
       have mc1 : w4.cell? ⟨n1 + 1 + 1, 1, none⟩ = some (.int .i64 4) := (CC.blk (BC.out.later H4.out)).c1;
       have mc2 : w4.cell? ⟨n1 + 1 + 1, 2, none⟩ = some (.int .i64 0) := (CC.blk (BC.out.later H4.out)).c2;
       have mc3 : w4.cell? ⟨n1 + 1 + 1, 3, none⟩ = some (.int .i64 3) := (CC.blk (BC.out.later H4.out)).c3;
       have mc4 : w4.cell? ⟨n1 + 1 + 1, 4, none⟩ = some (.int .u64 5) := (CC.blk (BC.out.later H4.out)).c4)
    | (go_at_call 10; with_reducible refine (B5.out _).mono ?_; rintro e5 w5 ⟨rfl, hb5⟩; have H5 := Lib.hid (H4.out.trans (hb5.mono H4.out.size)); clear hb5 ma0 ma1 ma2 ma3 ma4 mb0 mb1 mb2 mb3 mb4 mc0 mc1 mc2 mc3 mc4)
    | (go_at_call 13; with_reducible refine (P1.out _ H5.out).mono ?_; rintro e6 w6 ⟨rfl, hb6⟩; have H6 := Lib.hid (H5.out.trans (hb6.mono H5.out.size)); clear hb6)
    | (go_at_call 13; with_reducible refine (P2.out _ H6.out).mono ?_; rintro e7 w7 ⟨rfl, hb7⟩; have H7 := Lib.hid (H6.out.trans (hb7.mono H6.out.size)); clear hb7)
    | (go_at_call 13; with_reducible refine (P3.out _ H7.out).mono ?_; rintro e8 w8 ⟨rfl, hb8⟩; have H8 := Lib.hid (H7.out.trans (hb8.mono H7.out.size)); clear hb8)
    | (go_at_call 13; with_reducible refine (P4.out _).mono ?_; rintro e9 w9 ⟨rfl, hb9⟩; have H9 := Lib.hid (H8.out.trans (hb9.mono H8.out.size)); clear hb9)
    | (go_at_call 17; refine (O1.out _ H9.out).mono ?_; rintro e10 w10 ⟨A9, p9, rfl, hv, hb10⟩; have H10 := Lib.hid (H9.out.trans (hb10.mono H9.out.size)); have HV := Lib.hid hv; clear hb10 hv)
    | (go_at_call 16; refine (rints_any A9 4 p9 _ 4 4 [2, 1, 3, 0] [2, 1, 3, 0] _ (HV.out.later (below1 _ _)) (VN.out _) (by decide)).mono ?_; rintro e11 w11 ⟨rfl, hb11⟩; have H11 := Lib.hid (H10.out.trans (((below1 _ _).trans (hb11.mono (below1 _ _).size)).mono H10.out.size)); clear hb11))
  go_ret
  exact ⟨rfl, HB.out.trans (H11.out.mono HB.out.size)⟩
end Go.Proofs.Ytgepkomomjmmhaa.Vi
