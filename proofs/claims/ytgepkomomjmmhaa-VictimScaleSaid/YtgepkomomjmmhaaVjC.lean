/- The program's bestOf, by Pick's question, and Pick. -/
import Derived.Test.YtgepkomomjmmhaaVjB
namespace Go.Proofs.Ytgepkomomjmmhaa.Vj
open Go.ChangeShapes Go.WideShapes Go.ChangeAt Go.RowKit Go.Lib Go.Joins Go.Deep
open Sp Vi
set_option linter.unusedVariables false
set_option maxRecDepth 100000

set_option maxHeartbeats 1000000 in
theorem fits_p (c : Cd) (room : Int) (rb : Nat) (w : World) (hr : w.cell? ⟨rb, 0, none⟩ = some (.int .i64 room)) : Calls Try.prog 24 #[.agg (cdA5 c), .pointer (some ⟨rb, 0, none⟩)] w fun e w' => e = .returned (.bool (decide (c.n ≤ room))) ∧ Below w.heap.size w w' := by
  obtain ⟨W, hW⟩ : ∃ W, w.alloc (.cells (cdA5 c) 25) = W := ⟨_, rfl⟩
  have HB := Lib.hid (show Below w.heap.size w W by rw [← hW]; exact below1 _ _)
  have BA : Sp.Blk W w.heap.size 25 (cdA5 c) := by rw [← hW]; exact Sp.Blk.new w 25 (cdA5 c)
  have a4 := (CC.blk BA).c3
  have r4 : W.cell? ⟨rb, 0, none⟩ = some (.int .i64 room) := (HB.out.cell (World.block_lt_of_cell? _ _ hr)).trans hr
  clear BA hr
  go_enter Try.func24, Try.ntmps24
  go_upto_region 1 with fail
  go_wp2_with fail
  go_ret
  exact ⟨rfl, HB.out⟩

/-- One more that may be taken. -/
theorem best_yes {k : Nat} {c : Nat → Cd} {P : Nat → Bool} (hp : P k = true) (h : best k c P < 0 ∨ better (c k) (c (best k c P).toNat) = true) : best (k + 1) c P = k := by
  show (if P k = true ∧ (best k c P < 0 ∨ better (c k) (c (best k c P).toNat) = true) then (k : Int) else best k c P) = k
  rw [if_pos ⟨hp, h⟩]
theorem best_no {k : Nat} {c : Nat → Cd} {P : Nat → Bool} (hp : ¬ P k = true) : best (k + 1) c P = best k c P := by
  show (if P k = true ∧ (best k c P < 0 ∨ better (c k) (c (best k c P).toNat) = true) then (k : Int) else best k c P) = best k c P
  rw [if_neg (fun h => hp h.1)]
theorem best_not {k : Nat} {c : Nat → Cd} {P : Nat → Bool} (h : ¬ (best k c P < 0 ∨ better (c k) (c (best k c P).toNat) = true)) : best (k + 1) c P = best k c P := by
  show (if P k = true ∧ (best k c P < 0 ∨ better (c k) (c (best k c P).toNat) = true) then (k : Int) else best k c P) = best k c P
  rw [if_neg (fun k => h k.2)]

set_option maxHeartbeats 4000000 in
theorem bestOf_p (A : Option Addr) (n p : Nat) (L : List Cd) (room : Int) (rb : Nat) (w : World) (hC : CR w A n L) (hn : n ≤ 20) (hp : n ≤ p) (hin : ∀ x ∈ L, CIn x) (hr : w.cell? ⟨rb, 0, none⟩ = some (.int .i64 room)) :
    Calls Try.prog 23 #[.slice A n p, .func (.func 24) #[] #[.pointer (some ⟨rb, 0, none⟩)]] w fun e w' => e = .returned (.int .i64 (pick L room)) ∧ Below w.heap.size w w' := by
  have HN := Lib.hid hn
  have HIN := Lib.hid hin
  have HL := Lib.hid hC.len
  have HC := Lib.hid hC
  have HRB := Lib.hid hr
  clear hn hin hC hr
  go_enter Try.func23, Try.ntmps23
  go_upto_region 3 with fail
  go_loopg [5, 10] n (fun gk s5 s10 wr => ∃ (k : Nat) (b : Int), k ≤ n ∧ gk = n - k ∧ s5 = .int .i64 b ∧ s10 = .int .i64 (k : Nat) ∧ Hid (b = best k (cdA L) (may L room)) ∧ Hid (Below w.heap.size w wr))
  case atStart => exact ⟨0, _, by omega, rfl, rfl, rfl, Lib.hid rfl, Lib.hid (Below.refl _ _)⟩
  case round =>
    obtain ⟨k, b, hk, hgk, rfl, rfl, HBE, HW⟩ := hrel
    have HGK := Lib.hid hgk
    clear hgk
    by_cases hkn : k < n
    · have hl : (k : Int) < (n : Int) := by omega
      have wk : IntKind.i64.wrap ((k : Int) + 1) = (k : Int) + 1 := IntWalk.i64_in _ (by have := HN.out; omega)
      obtain ⟨g, o, rfl, hc⟩ := HC.out.rc (by omega)
      obtain ⟨x, hx⟩ : ∃ x, L[k]? = some x := ⟨_, List.getElem?_eq_getElem (by have := HL.out; omega)⟩
      have EX := Lib.hid (cdA_of hx)
      have HX := Lib.hid (HIN.out x (List.mem_of_getElem? hx))
      have hcx := (hc k x hx).later HW.out
      have x0 := hcx.c0
      have x1 := hcx.c1
      have x2 := hcx.c2
      have x3 := hcx.c3
      have x4 := hcx.c4
      have HCC := Lib.hid hc
      clear hc hcx hx
      go_upto_region 5 with fail
      obtain ⟨W, hW⟩ : ∃ W, wr.alloc (.cells #[.int .i64 x.s, .int .i64 x.l, .int .i64 x.v, .int .i64 x.n, .int .u64 x.a] 25) = W := ⟨_, rfl⟩
      have HB := Lib.hid (show Below w.heap.size w W by rw [← hW]; exact HW.out.alloc HW.out.size _)
      have BA : Sp.Blk W wr.heap.size 25 (cdA5 x) := by rw [← hW]; exact Sp.Blk.new wr 25 (cdA5 x)
      rw [hW]
      clear hW x0 x1 x2 x3 x4
      obtain ⟨q, hq⟩ : ∃ q, wr.heap.size = q := ⟨_, rfl⟩
      rw [hq] at BA ⊢
      clear hq HW
      have RB : ∀ X, Below W.heap.size W X → X.cell? ⟨rb, 0, none⟩ = some (.int .i64 room) := fun X hX => by
        have h1 := HB.out.trans (hX.mono HB.out.size)
        exact (h1.cell (World.block_lt_of_cell? _ _ HRB.out)).trans HRB.out
      have FC : Hid (∀ X, X.cell? ⟨rb, 0, none⟩ = some (.int .i64 room) → Calls Try.prog 24 #[.agg (cdA5 x), .pointer (some ⟨rb, 0, none⟩)] X fun e w' => e = .returned (.bool (decide (x.n ≤ room))) ∧ Below X.heap.size X w') := Lib.hid (fun X hX => fits_p x room rb X hX)
      have EM : Hid (may L room k = decide (x.n ≤ room)) := Lib.hid (by unfold may; rw [EX.out])
      generalize decide (x.n ≤ room) = m at *
      have a0 : ∀ jj : In (fun X => Below W.heap.size W X), Sp.Blk jj.W q 25 (cdA5 x) := fun jj => BA.later jj.h
      have a1 := fun jj => (CC.blk (a0 jj)).c0
      have a2 := fun jj => (CC.blk (a0 jj)).c1
      have a3 := fun jj => (CC.blk (a0 jj)).c2
      have a4 := fun jj => (CC.blk (a0 jj)).c3
      have a5 := fun jj => (CC.blk (a0 jj)).c4
      clear a0 BA
      cases m with
      | false =>
        have I : Below W.heap.size W { W with drawn := W.drawn + 1 } := (Below.refl _ _).drew
        have hne : Nonempty (In (fun X => Below W.heap.size W X)) := ⟨⟨_, I⟩⟩
        refine region_class (fun X => Below W.heap.size W X) (by kernel_rfl) (by kernel_rfl) I ?_
        repeat (go_big_quiet_step (first
          | (go_at_call 24; with_reducible exact class_call _ (fun hi => (FC.out _ (RB _ hi)).mono fun _ _ ⟨he, hb⟩ => ⟨he, hi.trans (hb.mono hi.size)⟩))))
        refine wpQuiet_nil ?_
        rintro _ ⟨jj, rfl⟩
        have HY := Lib.hid (HB.out.trans (jj.h.mono HB.out.size))
        generalize jj.W = X at *
        clear jj hne I
        go_wp2_with fail
        go_roundg (n - (k + 1))
        case measure => have := HGK.out; omega
        case rel => exact ⟨k + 1, b, by omega, by have := HGK.out; omega, rfl, by go_num, Lib.hid (HBE.out.trans (best_no (by rw [EM.out]; decide)).symm), HY⟩
      | true =>
        by_cases hb : b < 0
        · have hd : decide (b < 0) = true := decide_eq_true hb
          have HBN := Lib.hid hb
          clear hb
          have I : Below W.heap.size W { W with drawn := W.drawn + 1 } := (Below.refl _ _).drew
          have hne : Nonempty (In (fun X => Below W.heap.size W X)) := ⟨⟨_, I⟩⟩
          refine region_class (fun X => Below W.heap.size W X) (by kernel_rfl) (by kernel_rfl) I ?_
          repeat (go_big_quiet_step (first
            | (go_at_call 24; with_reducible exact class_call _ (fun hi => (FC.out _ (RB _ hi)).mono fun _ _ ⟨he, hb⟩ => ⟨he, hi.trans (hb.mono hi.size)⟩))))
          refine wpQuiet_nil ?_
          rintro _ ⟨jj, rfl⟩
          have HY := Lib.hid (HB.out.trans (jj.h.mono HB.out.size))
          generalize jj.W = X at *
          clear jj hne I
          go_wp2_with fail
          go_roundg (n - (k + 1))
          case measure => have := HGK.out; omega
          case rel => exact ⟨k + 1, k, by omega, by have := HGK.out; omega, rfl, by go_num, Lib.hid (best_yes EM.out (.inl (by rw [← HBE.out]; exact HBN.out))).symm, HY⟩
        · have hd : decide (b < 0) = false := decide_eq_false hb
          have hbk : b < k := by have := best_lt k (cdA L) (may L room); rw [← HBE.out] at this; exact this
          obtain ⟨j, rfl⟩ : ∃ j : Nat, b = (j : Int) := ⟨b.toNat, by omega⟩
          have hjn : (j : Int) < (n : Int) := by omega
          have hjn2 : j < n := by omega
          obtain ⟨y, hy⟩ : ∃ y, L[j]? = some y := ⟨_, List.getElem?_eq_getElem (by have := HL.out; omega)⟩
          have EY := Lib.hid (cdA_of hy)
          have HYI := HIN.out y (List.mem_of_getElem? hy)
          have EB : Hid (better (cdA L k) (cdA L (best k (cdA L) (may L room)).toNat) = better x y) := Lib.hid (by rw [EX.out, ← HBE.out, Int.toNat_natCast, EY.out])
          have BC : Hid (∀ X, Calls Try.prog 10 #[.agg (cdA5 x), .agg (cdA5 y)] X fun e w' => e = .returned (.bool (better x y)) ∧ Below X.heap.size X w') := Lib.hid (fun X => better_p x y X HX.out HYI)
          have hyc := HCC.out j y hy
          have y0 : ∀ jj : In (fun X => Below W.heap.size W X), CC jj.W g (o + j * 5) y := fun jj => hyc.later (HB.out.trans (jj.h.mono HB.out.size))
          have y1 := fun jj => (y0 jj).c0
          have y2 := fun jj => (y0 jj).c1
          have y3 := fun jj => (y0 jj).c2
          have y4 := fun jj => (y0 jj).c3
          have y5 := fun jj => (y0 jj).c4
          clear y0 hyc hy HYI EY
          have HNB : Hid (¬ best k (cdA L) (may L room) < 0) := Lib.hid (by rw [← HBE.out]; exact hb)
          clear hb hbk
          cases hxy : better x y with
          | false =>
            rw [hxy] at BC EB
            clear hxy
            have I : Below W.heap.size W { W with drawn := W.drawn + 1 } := (Below.refl _ _).drew
            have hne : Nonempty (In (fun X => Below W.heap.size W X)) := ⟨⟨_, I⟩⟩
            refine region_class (fun X => Below W.heap.size W X) (by kernel_rfl) (by kernel_rfl) I ?_
            repeat (go_big_quiet_step (first
              | (go_at_call 24; with_reducible exact class_call _ (fun hi => (FC.out _ (RB _ hi)).mono fun _ _ ⟨he, hb⟩ => ⟨he, hi.trans (hb.mono hi.size)⟩))
              | (go_at_call 10; with_reducible exact class_call _ (fun hi => (BC.out _).mono fun _ _ ⟨he, hb⟩ => ⟨he, hi.trans (hb.mono hi.size)⟩))))
            refine wpQuiet_nil ?_
            rintro _ ⟨jj, rfl⟩
            have HY := Lib.hid (HB.out.trans (jj.h.mono HB.out.size))
            generalize jj.W = X at *
            clear jj hne I
            go_wp2_with fail
            go_roundg (n - (k + 1))
            case measure => have := HGK.out; omega
            case rel => exact ⟨k + 1, j, by omega, by have := HGK.out; omega, rfl, by go_num, Lib.hid (HBE.out.trans (best_not (fun h => h.elim (fun h1 => absurd h1 (Int.not_lt.2 HNB.out)) (fun h2 => by rw [EB.out] at h2; cases h2))).symm), HY⟩
          | true =>
            rw [hxy] at BC EB
            clear hxy
            have I : Below W.heap.size W { W with drawn := W.drawn + 1 } := (Below.refl _ _).drew
            have hne : Nonempty (In (fun X => Below W.heap.size W X)) := ⟨⟨_, I⟩⟩
            refine region_class (fun X => Below W.heap.size W X) (by kernel_rfl) (by kernel_rfl) I ?_
            repeat (go_big_quiet_step (first
              | (go_at_call 24; with_reducible exact class_call _ (fun hi => (FC.out _ (RB _ hi)).mono fun _ _ ⟨he, hb⟩ => ⟨he, hi.trans (hb.mono hi.size)⟩))
              | (go_at_call 10; with_reducible exact class_call _ (fun hi => (BC.out _).mono fun _ _ ⟨he, hb⟩ => ⟨he, hi.trans (hb.mono hi.size)⟩))))
            refine wpQuiet_nil ?_
            rintro _ ⟨jj, rfl⟩
            have HY := Lib.hid (HB.out.trans (jj.h.mono HB.out.size))
            generalize jj.W = X at *
            clear jj hne I
            go_wp2_with fail
            go_roundg (n - (k + 1))
            case measure => have := HGK.out; omega
            case rel => exact ⟨k + 1, k, by omega, by have := HGK.out; omega, rfl, by go_num, Lib.hid (best_yes EM.out (.inr EB.out)).symm, HY⟩
    · obtain rfl : k = n := by omega
      have hl : ¬ (k : Int) < (k : Int) := by omega
      go_wp2_with fail
      go_ret
      exact ⟨by rw [HBE.out, HL.out]; rfl, HW.out⟩

set_option maxHeartbeats 2000000 in
theorem pick_p (A : Option Addr) (n p : Nat) (L : List Cd) (room : Int) (w : World) (hC : CR w A n L) (hn : n ≤ 20) (hp : n ≤ p) (hin : ∀ x ∈ L, CIn x) :
    Calls Try.prog 13 #[.slice A n p, .int .i64 room] w fun e w' => e = .returned (.int .i64 (pick L room)) ∧ Below w.heap.size w w' := by
  obtain ⟨W, hW⟩ : ∃ W, w.alloc (.cells #[.int .i64 room] 3) = W := ⟨_, rfl⟩
  have HB := Lib.hid (show Below w.heap.size w W by rw [← hW]; exact below1 _ _)
  have BA : Sp.Blk W w.heap.size 3 #[.int .i64 room] := by rw [← hW]; exact Sp.Blk.new w 3 #[.int .i64 room]
  have PC := Lib.hid (bestOf_p A n p L room w.heap.size W (hC.later HB.out) hn hp hin (by rw [BA.cell]; rfl))
  clear BA hC
  go_enter Try.func13, Try.ntmps13
  go_upto_region 1 with fail
  go_wp2_with (go_at_call 23; with_reducible refine PC.out.mono ?_; rintro e1 w1 ⟨rfl, hb1⟩; have H1 := Lib.hid (HB.out.trans (hb1.mono HB.out.size)))
  go_ret
  exact ⟨rfl, H1.out⟩
end Go.Proofs.Ytgepkomomjmmhaa.Vj
