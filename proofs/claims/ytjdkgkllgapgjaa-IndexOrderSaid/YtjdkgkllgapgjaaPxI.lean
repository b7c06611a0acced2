/- The program's leave. -/
import Derived.Test.YtjdkgkllgapgjaaPxH
namespace Go.Proofs.Ytjdkgkllgapgjaa.Px
open Go.RowKit Go.Lib Go.Maps
open Re (Rec Key new_cells rcA isL below_drewN)
open Ix
open Sp
set_option linter.unusedVariables false
set_option linter.unusedSimpArgs false
set_option maxRecDepth 100000

/-- 'delete(m, x)' whose run is known, at a step of a region that draws its order. -/
theorem step_del {t k : TypeId} {ops : Array Oper} {o : Oper} {a : Act} {w : World} {K : Act → World → Prop} {Q : Exit → Act → World → Prop} {E : Prop} (hgd : o.guard = none) (s x : Operand)
    (ho : o.op = .call { callee := .builtin .delete, args := #[s, x], argTypes := #[t, k] }) (u1 u2 : Value) (hs : a.eval s = u1) (hx : a.eval x = u2) {v' : Value} {W5 : World}
    (hrun : ∀ ty, (Builtin.delete_ #[t, k] ty #[u1, u2]).run Try.prog w = .ok v' W5) (h : K (a.put o.dst v') W5) :
    if Region.wanted o (yielded ops a.tmps) = true then Oper.wp Try.prog o a w K Q else E := by
  have hw : Region.wanted o (yielded ops a.tmps) = true := by simp [Region.wanted, hgd]
  rw [if_pos hw]
  unfold Oper.wp
  simp only [execOp, ho, resolve, invoke, builtin, Sem.run_bind, Sem.run_pure, Result.andThen_ok, List.map_toArray, List.map_cons, List.map_nil, hs, hx, hrun]
  exact h
noncomputable def lev1 (t : St) (i : ByteArray) (s p : Int) : St := (t.fpS (locK s p) none).fcS i.toList (some ((t.fc i.toList).getD 0 - 1))
noncomputable def lev2 (t : St) (i : ByteArray) (s p : Int) : St := if (t.fc i.toList).getD 0 - 1 = 0 then (lev1 t i s p).fcS i.toList none else lev1 t i s p
noncomputable def levT (t : St) (i : ByteArray) (s p : Int) : St := match t.nw i.toList with
  | some a => if a.s = s ∧ a.p = p then unsT (lev2 t i s p) i.toList else lev2 t i s p
  | none => lev2 t i s p
theorem lev2_is (t : St) (i : ByteArray) (s p : Int) : (lev2 t i s p).g = t.g ∧ (lev2 t i s p).nw = t.nw ∧ (lev2 t i s p).mn = t.mn ∧ (lev2 t i s p).q = t.q ∧ (lev2 t i s p).nn = t.nn ∧ (lev2 t i s p).nl = t.nl ∧ (lev2 t i s p).nz = t.nz ∧ (lev2 t i s p).lv = t.lv := by
  unfold lev2
  split <;> exact ⟨rfl, rfl, rfl, rfl, rfl, rfl, rfl, rfl⟩
section
variable {W w w' : World} {items : List Sp.Item} {k : Nat} {t : St}
set_option maxHeartbeats 8000000 in
theorem leave_any (h : Sp.Sep W w items) (hk : items[k]? = some (mI t)) {i : ByteArray} (hi : i.size ≤ maxLen) {s p : Int} (hs : I64 s) (hp : I64 p) (hfp : t.fp (locK s p) = some (.string i))
    {LC : List Key} (hLC : ∀ k, t.fc k ≠ none → k ∈ LC) (hnC : LC.length ≤ 100000) (hc1 : Sm ((t.fc i.toList).getD 0)) (hF : ∀ a, t.nw i.toList = some a → Fine t a (-1)) :
    Calls Try.prog 26 #[.pointer (some ⟨t.g, 0, none⟩), .agg #[.int .i64 s, .int .i64 p]] w fun x w' => x = .returned (.tuple #[]) ∧ Sp.Sep W w' (items.set k (mI (levT t i s p))) := by
  have h0 := loc_alloc h 32 #[.int .i64 s, .int .i64 p]
  have hk0 := app_at (b := locI [(w.heap.size, 32, #[.int .i64 s, .int .i64 p])]) hk
  have hl0 : (items ++ [locI [(w.heap.size, 32, #[.int .i64 s, .int .i64 p])]])[items.length]? = some (locI [(w.heap.size, 32, #[.int .i64 s, .int .i64 p])]) := app_last
  have HK := Lib.hid hk
  obtain ⟨nb, hnb⟩ : ∃ nb, w.heap.size = nb := ⟨_, rfl⟩
  rw [hnb] at hk0 hl0 h0
  obtain ⟨J, hJ⟩ : ∃ J, items ++ [locI [(nb, 32, #[.int .i64 s, .int .i64 p])]] = J := ⟨_, rfl⟩
  rw [hJ] at hk0 hl0 h0
  have HJ := Lib.hid hJ
  have HK0 := Lib.hid hk0
  have HL0 := Lib.hid hl0
  have HI := Lib.hid hi
  have HS := Lib.hid hs
  have HP := Lib.hid hp
  have HFP := Lib.hid hfp
  have HLC := Lib.hid (And.intro hLC hnC)
  have HF := Lib.hid hF
  have HC1 := Lib.hid hc1
  clear h hk hi hs hp hLC hnC hF hJ hk0 hl0 hfp hc1
  go_enter Try.func26, Try.ntmps26
  go_upto_region 1 with fail
  generalize w.alloc (.cells #[.int .i64 s, .int .i64 p] 32) = w1 at *
  clear hnb
  have x0 := ix0 h0 HK0.out
  have y0 : w1.cell? ⟨nb, 0, none⟩ = some (.int .i64 s) := (loc_blk h0 HL0.out).cell 0
  have y1 : w1.cell? ⟨nb, 1, none⟩ = some (.int .i64 p) := (loc_blk h0 HL0.out).cell 1
  have hlk : ∀ n : Nat, (Instr.lookup 53 (.map (some t.mp)) (.agg #[.int .i64 s, .int .i64 p]) false).run Try.prog (w1.drewN n) = .ok (.string i) (w1.drewN n) := fun n => by
    have q := (p_look (w := w1.drewN n) (h0.later (below_drewN (Below.refl _ _) n)) HK0.out HS.out HP.out).2
    rw [HFP.out] at q
    exact q
  go_quiet (fail)
  have h2 := h0.later (below_drewN (Below.refl _ _) nq)
  clear x0 y0 y1 hlk h0
  generalize w1.drewN nq = w2 at *
  have x0 := ix0 h2 HK0.out
  have x0' : w2.drew.cell? ⟨t.g, 0, none⟩ = some (.map (some t.mp)) := x0
  have y0 : w2.cell? ⟨nb, 0, none⟩ = some (.int .i64 s) := (loc_blk h2 HL0.out).cell 0
  have y1 : w2.cell? ⟨nb, 1, none⟩ = some (.int .i64 p) := (loc_blk h2 HL0.out).cell 1
  have y0' : w2.drew.cell? ⟨nb, 0, none⟩ = some (.int .i64 s) := y0
  have y1' : w2.drew.cell? ⟨nb, 1, none⟩ = some (.int .i64 p) := y1
  obtain ⟨w3, hrun3, h3⟩ := fp_del h2.drew HK0.out HS.out HP.out
  have hk3 := set_at HK0.out (mI (t.fpS (locK s p) none))
  have x2 := ix2 h3 hk3
  change World.cell? _ ⟨t.g, 2, none⟩ = some (.map (some t.mc)) at x2
  have lk2 := c_look h3 hk3 HI.out
  change (Instr.lookup 55 (.map (some t.mc)) (.string i) false).run Try.prog w3 = .ok (.int .i64 ((t.fc i.toList).getD 0)) w3 at lk2
  obtain ⟨w4, hrun4, h4⟩ := fc_put h3 hk3 HI.out ((t.fc i.toList).getD 0 - 1) HLC.out.1 HLC.out.2
  change (Instr.mapUpdate 55 (.map (some t.mc)) (.string i) (.int .i64 ((t.fc i.toList).getD 0 - 1))).run Try.prog w3 = .ok () w4 at hrun4
  have wi2 : IntKind.i64.wrap ((t.fc i.toList).getD 0 - 1) = (t.fc i.toList).getD 0 - 1 := IntWalk.i64_in _ (by have := HC1.out; omega)
  rw [List.set_set] at h4
  have hk4 := set_at HK0.out (mI (lev1 t i s p))
  have x4 := ix2 h4 hk4
  change World.cell? _ ⟨t.g, 2, none⟩ = some (.map (some t.mc)) at x4
  have lk4 := c_look h4 hk4 HI.out
  rw [show (lev1 t i s p).fc i.toList = some ((t.fc i.toList).getD 0 - 1) by show up _ _ _ _ = _; rw [up_at]] at lk4
  change (Instr.lookup 55 (.map (some t.mc)) (.string i) false).run Try.prog w4 = .ok (.int .i64 ((t.fc i.toList).getD 0 - 1)) w4 at lk4
  have H4 : Hid (Sp.Sep W w4 (J.set k (mI (lev1 t i s p)))) := Lib.hid h4
  have L2 : Hid (lev2 t i s p = if (t.fc i.toList).getD 0 - 1 = 0 then (lev1 t i s p).fcS i.toList none else lev1 t i s p) := Lib.hid rfl
  clear h2 h3 h4 hk3 hk4
  generalize (t.fc i.toList).getD 0 = n at *
  go_upto_region 2 with fail
  go_region_law (refine step_del rfl (.tmp 16) (.tmp 17) rfl (.map (some t.mp)) (.agg #[.int .i64 s, .int .i64 p]) (by simp [Act.eval]) (by simp [Act.eval]) hrun3 ?_)
  all_goals (
    clear x0 x0' y0 y1 y0' y1'
    go_upto_region 4 with fail
    by_cases hz : n - 1 = 0
    · have hz1 : (n - 1 == 0) = true := by simp [hz]
      obtain ⟨w5, hrun5, h5⟩ := fc_del H4.out (set_at HK0.out _) HI.out
      rw [List.set_set] at h5
      have hd5 := hrun5 0
      change (Builtin.delete_ #[55, 9] 0 #[.map (some t.mc), .string i]).run Try.prog w4 = _ at hd5
      have H6 : Hid (Sp.Sep W w5 (J.set k (mI (lev2 t i s p)))) := Lib.hid (by rw [L2.out, if_pos hz]; exact h5)
      clear hrun5 h5 H4 hz
      go_upto_region 6 with fail
      clear x2 x4 lk2 lk4 hrun3 hrun4 hd5 wi2 hz1
      generalize w5 = X at *

      have G := lev2_is t i s p
      have x3 := ix3 H6.out (set_at HK0.out _)
      rw [G.1, G.2.2.1] at x3
      have hl := (n_look H6.out (set_at HK0.out _) HI.out).1
      rw [G.2.2.1, G.2.1] at hl
      have hl6 := set_far HL0.out (lt_of_at HK.out) (mI (lev2 t i s p))
      have y0 : X.cell? ⟨nb, 0, none⟩ = some (.int .i64 s) := (loc_blk H6.out hl6).cell 0
      have y1 : X.cell? ⟨nb, 1, none⟩ = some (.int .i64 p) := (loc_blk H6.out hl6).cell 1
      have HNB : Hid (nb < X.heap.size) := Lib.hid (loc_blk H6.out hl6).lt
      clear hl6
      cases hnw : t.nw i.toList with
      | none =>
        rw [hnw] at hl
        change _ = Result.ok (Value.tuple #[.agg #[.int .u64 0, .int .u64 0, .bool false, .int .i64 0, .int .i64 0, .int .i64 0], .bool false]) _ at hl
        have HT : Hid (levT t i s p = lev2 t i s p) := Lib.hid (by unfold levT; rw [hnw])
        clear hnw G
        go_wp2_with fail
        go_end0
        refine ⟨rfl, ?_⟩
        have q := H6.out.alloc (.cells #[.int .u64 0, .int .u64 0, .bool false, .int .i64 0, .int .i64 0, .int .i64 0] 34)
        rw [← HJ.out, app_set HK.out] at q
        rw [HT.out]
        exact loc_drop q
      | some a =>
        rw [hnw] at hl
        change _ = Result.ok (Value.tuple #[.agg (enA a), .bool true]) _ at hl
        have z0 : (X.alloc (.cells (enA a) 34)).cell? ⟨nb, 0, none⟩ = some (.int .i64 s) := (World.cell?_of_block (w := X) (Below.heap_alloc _ _ _ HNB.out)).trans y0
        have z1 : (X.alloc (.cells (enA a) 34)).cell? ⟨nb, 1, none⟩ = some (.int .i64 p) := (World.cell?_of_block (w := X) (Below.heap_alloc _ _ _ HNB.out)).trans y1
        have h7 := H6.out.alloc (.cells (enA a) 34)
        by_cases hsp : a.s = s ∧ a.p = p
        · have HT : Hid (levT t i s p = unsT (lev2 t i s p) i.toList) := Lib.hid (by unfold levT; rw [hnw]; simp only; rw [if_pos hsp])
          have HU := unset_any h7 (set_at HK0.out _) HI.out (fun b hb => by
            rw [G.2.1] at hb
            have F := HF.out b hb
            exact ⟨by rw [G.2.2.2.1]; exact F.q, F.s, by rw [G.2.2.2.2.1]; exact F.r1, by rw [G.2.2.2.2.2.1]; exact F.r2, by rw [G.2.2.2.2.2.2.1]; exact F.r3, by rw [G.2.2.2.2.2.2.2]; exact F.r4, F.r5, F.r6⟩)
          rw [G.1, List.set_set, ← HJ.out, app_set HK.out] at HU
          have HUU := Lib.hid HU
          obtain ⟨e1, e2⟩ := hsp
          clear hnw G h7 HU
          subst e1
          subst e2
          go_wp2_with (go_at_call 27; refine HUU.out.mono ?_; rintro e8 w8 ⟨rfl, h8⟩; have H8 := Lib.hid h8; clear h8)
          go_end0
          refine ⟨rfl, ?_⟩
          rw [HT.out]
          exact loc_drop H8.out
        · have HT : Hid (levT t i s p = lev2 t i s p) := Lib.hid (by unfold levT; rw [hnw]; simp only; rw [if_neg hsp])
          rw [← HJ.out, app_set HK.out] at h7
          have H7 := Lib.hid (loc_drop h7)
          clear hnw G h7
          by_cases h1 : a.s = s
          · have h2 : ¬ a.p = p := fun h2 => hsp ⟨h1, h2⟩
            have b2 : (a.p == p) = false := by simp [h2]
            clear hsp
            subst h1
            go_wp2_with fail
            go_end0
            refine ⟨rfl, ?_⟩
            rw [HT.out]
            exact H7.out
          · have b1 : (a.s == s) = false := by simp [h1]
            clear hsp
            go_wp2_with fail
            go_end0
            refine ⟨rfl, ?_⟩
            rw [HT.out]
            exact H7.out
    · have hz1 : (n - 1 == 0) = false := by simp [hz]
      have H6 : Hid (Sp.Sep W w4 (J.set k (mI (lev2 t i s p)))) := Lib.hid (by rw [L2.out, if_neg hz]; exact H4.out)
      clear H4 hz
      go_upto_region 6 with fail
      clear x2 x4 lk2 lk4 hrun3 hrun4 wi2 hz1
      generalize w4 = X at *

      have G := lev2_is t i s p
      have x3 := ix3 H6.out (set_at HK0.out _)
      rw [G.1, G.2.2.1] at x3
      have hl := (n_look H6.out (set_at HK0.out _) HI.out).1
      rw [G.2.2.1, G.2.1] at hl
      have hl6 := set_far HL0.out (lt_of_at HK.out) (mI (lev2 t i s p))
      have y0 : X.cell? ⟨nb, 0, none⟩ = some (.int .i64 s) := (loc_blk H6.out hl6).cell 0
      have y1 : X.cell? ⟨nb, 1, none⟩ = some (.int .i64 p) := (loc_blk H6.out hl6).cell 1
      have HNB : Hid (nb < X.heap.size) := Lib.hid (loc_blk H6.out hl6).lt
      clear hl6
      cases hnw : t.nw i.toList with
      | none =>
        rw [hnw] at hl
        change _ = Result.ok (Value.tuple #[.agg #[.int .u64 0, .int .u64 0, .bool false, .int .i64 0, .int .i64 0, .int .i64 0], .bool false]) _ at hl
        have HT : Hid (levT t i s p = lev2 t i s p) := Lib.hid (by unfold levT; rw [hnw])
        clear hnw G
        go_wp2_with fail
        go_end0
        refine ⟨rfl, ?_⟩
        have q := H6.out.alloc (.cells #[.int .u64 0, .int .u64 0, .bool false, .int .i64 0, .int .i64 0, .int .i64 0] 34)
        rw [← HJ.out, app_set HK.out] at q
        rw [HT.out]
        exact loc_drop q
      | some a =>
        rw [hnw] at hl
        change _ = Result.ok (Value.tuple #[.agg (enA a), .bool true]) _ at hl
        have z0 : (X.alloc (.cells (enA a) 34)).cell? ⟨nb, 0, none⟩ = some (.int .i64 s) := (World.cell?_of_block (w := X) (Below.heap_alloc _ _ _ HNB.out)).trans y0
        have z1 : (X.alloc (.cells (enA a) 34)).cell? ⟨nb, 1, none⟩ = some (.int .i64 p) := (World.cell?_of_block (w := X) (Below.heap_alloc _ _ _ HNB.out)).trans y1
        have h7 := H6.out.alloc (.cells (enA a) 34)
        by_cases hsp : a.s = s ∧ a.p = p
        · have HT : Hid (levT t i s p = unsT (lev2 t i s p) i.toList) := Lib.hid (by unfold levT; rw [hnw]; simp only; rw [if_pos hsp])
          have HU := unset_any h7 (set_at HK0.out _) HI.out (fun b hb => by
            rw [G.2.1] at hb
            have F := HF.out b hb
            exact ⟨by rw [G.2.2.2.1]; exact F.q, F.s, by rw [G.2.2.2.2.1]; exact F.r1, by rw [G.2.2.2.2.2.1]; exact F.r2, by rw [G.2.2.2.2.2.2.1]; exact F.r3, by rw [G.2.2.2.2.2.2.2]; exact F.r4, F.r5, F.r6⟩)
          rw [G.1, List.set_set, ← HJ.out, app_set HK.out] at HU
          have HUU := Lib.hid HU
          obtain ⟨e1, e2⟩ := hsp
          clear hnw G h7 HU
          subst e1
          subst e2
          go_wp2_with (go_at_call 27; refine HUU.out.mono ?_; rintro e8 w8 ⟨rfl, h8⟩; have H8 := Lib.hid h8; clear h8)
          go_end0
          refine ⟨rfl, ?_⟩
          rw [HT.out]
          exact loc_drop H8.out
        · have HT : Hid (levT t i s p = lev2 t i s p) := Lib.hid (by unfold levT; rw [hnw]; simp only; rw [if_neg hsp])
          rw [← HJ.out, app_set HK.out] at h7
          have H7 := Lib.hid (loc_drop h7)
          clear hnw G h7
          by_cases h1 : a.s = s
          · have h2 : ¬ a.p = p := fun h2 => hsp ⟨h1, h2⟩
            have b2 : (a.p == p) = false := by simp [h2]
            clear hsp
            subst h1
            go_wp2_with fail
            go_end0
            refine ⟨rfl, ?_⟩
            rw [HT.out]
            exact H7.out
          · have b1 : (a.s == s) = false := by simp [h1]
            clear hsp
            go_wp2_with fail
            go_end0
            refine ⟨rfl, ?_⟩
            rw [HT.out]
            exact H7.out)
end
end Go.Proofs.Ytjdkgkllgapgjaa.Px
