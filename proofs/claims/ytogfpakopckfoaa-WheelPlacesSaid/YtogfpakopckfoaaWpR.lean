/- The comparison of two timers, and the sort of a row of timers by it. -/
import Derived.Test.YtogfpakopckfoaaWpQ
import Derived.Test.YtogfpakopckfoaaSrt
import Derived.Shelf.SlSortCmp.NoneTotal
import Derived.StillTailTactics
namespace Go.Proofs.Ytogfpakopckfoaa.Wl
open Go.RowKit Go.Lib Go.Maps
open Sp
set_option linter.unusedVariables false
set_option maxRecDepth 100000

def cmpD (a b : Int) : Int := if a < b then -1 else if b < a then 1 else 0
def cmpT (x y : Tm) : Int := if cmpD x.d y.d ≠ 0 then cmpD x.d y.d else Lib.compareBytes x.i.data.toList y.i.data.toList
theorem bytes_lt : ∀ a b : List UInt8, decide (Lib.compareBytes a b < 0) = decide (a < b)
  | [], [] => rfl
  | [], _ :: _ => by simp [Lib.compareBytes]
  | _ :: _, [] => by simp [Lib.compareBytes]
  | a :: xs, b :: ys => by
    unfold Lib.compareBytes
    by_cases h1 : a < b
    · simp [h1, List.cons_lt_cons_iff]
    · by_cases h2 : b < a
      · have h3 : a ≠ b := fun e => by subst e; exact h1 h2
        have h4 : ¬ (a :: xs < b :: ys) := by rw [List.cons_lt_cons_iff]; rintro (h | h); exact h1 h; exact h3 h.1
        rw [decide_eq_false h4]
        simp [h1, h2]
      · have h3 : a = b := UInt8.le_antisymm (UInt8.not_lt.1 h2) (UInt8.not_lt.1 h1)
        subst h3
        simp [bytes_lt xs ys]
theorem lt_ahd (x y : Tm) : ltOf cmpT x y = ahd x y := by
  unfold ltOf cmpT cmpD ahd
  rw [show x.key = x.i.data.toList from Lib.toList_data _, show y.key = y.i.data.toList from Lib.toList_data _]
  by_cases h1 : x.d < y.d
  · simp [h1]
  · by_cases h2 : y.d < x.d
    · have h3 : ¬ x.d = y.d := by omega
      simp [h1, h2, h3]
    · have h3 : x.d = y.d := by omega
      have := bytes_lt x.i.data.toList y.i.data.toList
      simp [h3, this]
theorem swoT : Sort.SWO (ltOf cmpT) where
  irrefl x := by
    rw [lt_ahd]
    cases h : ahd x x with
    | false => rfl
    | true =>
      rw [ahd_iff] at h
      rcases h with h | ⟨_, h⟩
      · omega
      · exact absurd h (List.lt_irrefl _)
  trans x y z h1 h2 := by
    rw [lt_ahd] at *
    exact ahd_trans h1 h2
  ntrans x y z h1 h2 := by
    rw [lt_ahd] at *
    have k1 : ¬ (x.d < y.d ∨ (x.d = y.d ∧ x.key < y.key)) := fun h => by rw [ahd_iff.2 h] at h1; cases h1
    have k2 : ¬ (y.d < z.d ∨ (y.d = z.d ∧ y.key < z.key)) := fun h => by rw [ahd_iff.2 h] at h2; cases h2
    cases h : ahd x z with
    | false => rfl
    | true =>
      exfalso
      rw [ahd_iff] at h
      have a1 : ¬ x.d < y.d := fun h => k1 (.inl h)
      have a2 : ¬ y.d < z.d := fun h => k2 (.inl h)
      rcases h with h | ⟨h, h'⟩
      · omega
      · have b1 : ¬ x.key < y.key := fun h => k1 (.inr ⟨by omega, h⟩)
        have b2 : ¬ y.key < z.key := fun h => k2 (.inr ⟨by omega, h⟩)
        exact List.not_lt.2 (List.le_trans (List.not_lt.1 b2) (List.not_lt.1 b1)) h'
theorem nan_any (x : Int) (w : World) : Calls Try.prog 47 #[.int .u64 x] w fun e w' => e = .returned (.bool false) ∧ w' = w := by
  go_enter Try.func47, Try.ntmps47
  go_wp2_with fail
  go_ret
  exact ⟨rfl, rfl⟩
theorem compare_any (x y : Int) (w : World) : Calls Try.prog 42 #[.int .u64 x, .int .u64 y] w fun e w' => e = .returned (.int .i64 (cmpD x y)) ∧ w' = w := by
  unfold cmpD
  by_cases h1 : x < y
  · rw [if_pos h1]
    go_enter Try.func42, Try.ntmps42
    go_wp2_with (go_at_call 47; refine (nan_any _ _).mono ?_; rintro e w' ⟨rfl, rfl⟩)
    go_ret
    exact ⟨rfl, rfl⟩
  · rw [if_neg h1]
    by_cases h2 : y < x
    · rw [if_pos h2]
      go_enter Try.func42, Try.ntmps42
      go_wp2_with (go_at_call 47; refine (nan_any _ _).mono ?_; rintro e w' ⟨rfl, rfl⟩)
      go_ret
      exact ⟨rfl, rfl⟩
    · rw [if_neg h2]
      go_enter Try.func42, Try.ntmps42
      go_wp2_with (go_at_call 47; refine (nan_any _ _).mono ?_; rintro e w' ⟨rfl, rfl⟩)
      go_ret
      exact ⟨rfl, rfl⟩
theorem or_any (a b : Int) (r : Nat) (w : World) (h : Sp.Blk w r 3 #[.int .i64 a, .int .i64 b]) : Calls Try.prog 41 #[.slice (some ⟨r, 0, none⟩) 2 2] w fun e w' => e = .returned (.int .i64 (if a ≠ 0 then a else b)) ∧ w' = w := by
  have x0 : w.cell? ⟨r, 0, none⟩ = some (.int .i64 a) := h.cell 0
  have x1 : w.cell? ⟨r, 1, none⟩ = some (.int .i64 b) := h.cell 1
  clear h
  obtain ⟨R, hR⟩ : ∃ R, (if a ≠ 0 then a else b) = R := ⟨_, rfl⟩
  rw [hR]
  have HR0 : Hid (a ≠ 0 → R = a) := Lib.hid (fun h => by rw [← hR, if_pos h])
  have HR1 : Hid (a = 0 → R = b) := Lib.hid (fun h => by rw [← hR, if_neg (by simp [h])])
  clear hR
  go_enter Try.func41, Try.ntmps41
  go_wp2_with fail
  go_loopg [8] 2 (fun gk s8 wr => ∃ (i : Nat), i ≤ 2 ∧ gk = 2 - i ∧ s8 = .int .i64 (i : Nat) ∧ w = wr ∧ Hid (0 < i → a = 0) ∧ Hid (1 < i → b = 0))
  case atStart => exact ⟨0, by omega, rfl, rfl, rfl, Lib.hid (by omega), Lib.hid (by omega)⟩
  case round =>
    obtain ⟨i, hi, hgk, rfl, rfl, HA, HB⟩ := hrel
    have HGK := Lib.hid hgk
    clear hgk
    have hi3 : i = 0 ∨ i = 1 ∨ i = 2 := by omega
    rcases hi3 with rfl | rfl | rfl
    · by_cases h1 : a = 0
      · have HA2 : Hid (0 < 0 + 1 → a = 0) := Lib.hid (fun _ => h1)
        go_wp2_with fail
        go_roundg 1
        case measure => have := HGK.out; omega
        case rel => exact ⟨1, by omega, rfl, rfl, rfl, HA2, Lib.hid (by omega)⟩
      · have h9 := HR0.out h1
        go_wp2_with fail
        go_ret
        exact ⟨by rw [h9]; rfl, rfl⟩
    · have h0 := HA.out (by omega)
      have h9 := HR1.out h0
      by_cases h1 : b = 0
      · have HB2 : Hid (1 < 2 → b = 0) := Lib.hid (fun _ => h1)
        have HA2 : Hid (0 < 2 → a = 0) := Lib.hid (fun _ => h0)
        clear h9
        go_wp2_with fail
        go_roundg 0
        case measure => have := HGK.out; omega
        case rel => exact ⟨2, by omega, rfl, rfl, rfl, HA2, HB2⟩
      · have HH9 := Lib.hid h9
        clear h9 h0
        go_wp2_with fail
        go_ret
        exact ⟨by rw [HH9.out]; rfl, rfl⟩
    · have HH9 := Lib.hid (show R = 0 by rw [HR1.out (HA.out (by omega)), HB.out (by omega)])
      go_wp2_with fail
      go_ret
      exact ⟨by rw [HH9.out]; rfl, rfl⟩
set_option maxHeartbeats 2000000 in
theorem closure_any (x y : Tm) (W : World) : Calls Try.prog 40 #[.agg (tmA x), .agg (tmA y)] W fun e w' => e = .returned (.int .i64 (cmpT x y)) ∧ ∃ q os', w' = Sort.grow (W.drewN q) os' := by
  have hstr := fun W' => Sh.strings_Compare x.i y.i W'
  unfold cmpT
  obtain ⟨c1, hc1⟩ : ∃ c, cmpD x.d y.d = c := ⟨_, rfl⟩
  have hcmp := fun W' => compare_any x.d y.d W'
  rw [hc1] at hcmp ⊢
  generalize Lib.compareBytes x.i.data.toList y.i.data.toList = c2 at hstr ⊢
  clear hc1
  have hor := fun r (W' : World) h => or_any c1 c2 r W' h
  generalize (if c1 ≠ 0 then c1 else c2) = R at hor ⊢
  go_enter Try.func40, Try.ntmps40
  go_wp2_with fail
  obtain ⟨X, hX⟩ : ∃ X, (W.alloc (.cells (tmA x) 41)).alloc (.cells (tmA y) 41) = X := ⟨_, rfl⟩
  have hB0 : Sp.Blk ((W.alloc (.cells (tmA x) 41)).alloc (.cells (tmA y) 41)) W.heap.size 41 (tmA x) := (Sp.Blk.new W 41 (tmA x)).later ((Below.refl _ _).alloc (Nat.le_refl _) _)
  have hB1 : Sp.Blk ((W.alloc (.cells (tmA x) 41)).alloc (.cells (tmA y) 41)) (W.heap.size + 1) 41 (tmA y) := Sp.Blk.at_ _ _ _ (by simp)
  rw [hX] at hB0 hB1 ⊢
  have HX := Lib.hid hX
  generalize W.heap.size = b0 at *
  have x0 : X.drew.cell? ⟨b0, 0, none⟩ = some (.string x.i) := hB0.cell 0
  have x1 : X.drew.cell? ⟨b0, 1, none⟩ = some (.int .u64 x.d) := hB0.cell 1
  have y0 : X.drew.cell? ⟨b0 + 1, 0, none⟩ = some (.string y.i) := hB1.cell 0
  have y1 : X.drew.cell? ⟨b0 + 1, 1, none⟩ = some (.int .u64 y.d) := hB1.cell 1
  clear hX hB0 hB1
  refine wp_region_still_tail 10 (by kernel_rfl) (by kernel_rfl) ?_
  simp only [List.take_succ_cons, List.take_zero, List.drop_succ_cons, List.drop_zero]
  change wpStill _ _ X.drew (fun a' => wpList _ _ _ _ a' X.drew) _ _
  repeat (first | still_call (hcmp X.drew) | still_call (hstr X.drew) | still_step)
  refine wpStill_nil ?_
  have hO := Lib.hid (hor X.drew.heap.size (X.drew.alloc (.cells #[.int .i64 c1, .int .i64 c2] 3)) (Sp.Blk.new _ _ _))
  clear x0 x1 y0 y1
  obtain ⟨Y, hY⟩ : ∃ Y, X.drew = Y := ⟨_, rfl⟩
  rw [hY] at hO ⊢
  have HY := Lib.hid hY
  clear hY
  go_wp2_with (go_at_call 41; refine hO.out.mono ?_; rintro e w' ⟨rfl, rfl⟩)
  go_ret
  refine ⟨rfl, 1, #[.cells (tmA x) 41, .cells (tmA y) 41, .cells #[.int .i64 c1, .int .i64 c2] 3], ?_⟩
  rw [← HY.out, ← HX.out]
  show (((W.drewN 1).alloc (.cells (tmA x) 41)).alloc (.cells (tmA y) 41)).alloc (.cells #[.int .i64 c1, .int .i64 c2] 3) = _
  rw [Sort.alloc_eq_grow, Sort.alloc_eq_grow, Sort.alloc_eq_grow, Sort.grow_grow, Sort.grow_grow]
  rfl
instance inhTm : Inhabited Tm := ⟨⟨⟨#[]⟩, 0⟩⟩
theorem cmpLaysT (blk off size : Nat) (w : World) : CmpLays Try.prog 40 #[] tmC 2 cmpT blk off size w := fun _ _ _ _ x y => closure_any x y _
/-- The row of timers, sorted. -/
theorem sort_any {W w : World} {items : List Sp.Item} {v : Value} {rs : List Tm} (h : Sp.Sep W w (items ++ [rowS 41 2 v rs.length (rs.flatMap tmC)])) (hn : rs.length ≤ 1000) :
    ∃ A p, v = .slice A rs.length p ∧ Calls Try.prog 39 #[v, .func (.func 40) #[] #[]] w fun e w' => e = .returned (.tuple #[]) ∧ ∃ ss : List Tm, ss.Perm rs ∧ (∀ i j (hi : i < ss.length) (hj : j < ss.length), i < j → ahd ss[j] ss[i] = false) ∧ Sp.Sep W w' (items ++ [trI A rs.length ss]) := by
  have hlast : (items ++ [rowS 41 2 v rs.length (rs.flatMap tmC)])[items.length]? = some (rowS 41 2 v rs.length (rs.flatMap tmC)) := get_last rfl
  obtain ⟨G, ⟨hrow, hG⟩, _, _, put⟩ := h.at_ _ hlast
  have hset : ∀ x, (items ++ [rowS 41 2 v rs.length (rs.flatMap tmC)]).set items.length x = items ++ [x] := fun x => set_last rfl
  rcases hrow.2 with ⟨rfl, h0⟩ | ⟨g, cap, cur, rfl, hg, hk, hc1, hc2, hc3, hc4⟩
  · refine ⟨none, 0, by rw [h0], ?_⟩
    have hnil : rs = [] := List.eq_nil_of_length_eq_zero h0
    subst hnil
    refine (AnyF.slices_SortFunc_none { Sh.sortL with } none 0 (.func (.func 40) #[] #[]) w).mono fun e w' ⟨he, hw⟩ => ⟨he, [], List.Perm.refl _, fun i j hi => by simp at hi, ?_⟩
    rw [hw, ← hset]
    exact put w (fun _ => False) (trI none 0 []) ⟨TR.nil _ _, fun a e => (by cases e), fun b hb => hb.elim⟩ (fun b hb => hb.elim) (Only.refl _ _)
  · refine ⟨some ⟨g, 0, none⟩, cap, rfl, ?_⟩
    have eg : ∀ args w, (callFunc 40 args).run Try.prog w = .ok (.enter 40 args) w := enters_of Try.func40 (by kernel_rfl) rfl
    have hgw : g < w.heap.size := (Array.getElem?_eq_some_iff.1 hk).1
    have hH : Sort.HoldsK tmC 2 w g 0 rs.toArray := by
      intro j hj
      rw [Sort.size_flatK] at hj
      have hj2 : j < rs.length * 2 := by simpa using hj
      have hi : j / 2 < rs.length := by omega
      refine ⟨?_, Sp.Blk.frozen hk _⟩
      show _ = some (id _)
      rw [Sort.get_flatK _ _ _ _ hj, id, Nat.zero_add, Sp.Blk.cell hk]
      have e1 : cur[j]? = (rs.flatMap tmC)[j]? := by
        rw [← hc4, List.getElem?_take_of_lt hj2]
        simp
      have e2 := flat_get tmC 2 tmC_len rs (j / 2) _ (j % 2) (List.getElem?_eq_getElem hi) (by omega)
      rw [show j / 2 * 2 + j % 2 = j by omega] at e2
      have e3 : rs.toArray[j / 2]! = rs[j / 2] := by
        rw [getElem!_pos rs.toArray (j / 2) (by simpa using hi)]
        simp
      rw [e1, e2, e3, List.getElem!_eq_getElem?_getD, List.getElem?_eq_getElem (by rw [tmC_len]; omega)]
      rfl
    have hcon := AnyQ.slices_SortFunc Sh.sortL 2 Try.isAgg41 Try.sizeOf41 tmC tmC_len tm_one cmpT swoT 40 #[] g 0 cap rs.toArray w eg (cmpLaysT g 0 rs.toArray.size w) hH hgw (by simp; omega)
    change Calls Try.prog 39 #[.slice (some ⟨g, 0, none⟩) rs.toArray.size cap, .func (.func 40) #[] #[]] w _ at hcon
    rw [List.size_toArray] at hcon
    refine hcon.mono ?_
    rintro e w' ⟨he, d', n, os, hp, hs, rfl⟩
    have hsz : d'.size = rs.length := by rw [hp.1]; simp
    refine ⟨he, d'.toList, ?_, ?_, ?_⟩
    · have h2 := hp.2.2
      have e1 : d'.extract 0 rs.length = d' := by rw [← hsz]; simp
      rw [e1] at h2
      simpa using h2
    · intro i j hi hj hij
      have h2 := hs i j (Nat.zero_le _) hij (by rw [Array.length_toList] at hj; simpa [hsz] using hj)
      rw [lt_ahd, getElem!_pos d' j (by simpa using hj), getElem!_pos d' i (by simpa using hi)] at h2
      simpa using h2
    · rw [← hset]
      have H2 := holdsK_sortWorldK_c tmC 2 w g 0 rs.toArray d' n os hH hgw hp.1
      have hgrow := size_sortWorldK_c tmC 2 w g 0 n d' os
      refine put _ G (trI (some ⟨g, 0, none⟩) rs.length d'.toList) ⟨⟨by simp [hsz], fun h0 => ⟨g, 0, rfl, fun i t hi => ?_⟩⟩, fun a ha _ => ?_, fun b hb => ?_⟩ (Grew.refl _ _) ⟨rfl, rfl, rfl, hgrow, fun b hb hnb => ?_⟩
      · have hlt : i < d'.size := by simpa using (List.getElem?_eq_some_iff.1 hi).1
        have e3 : d'[i]! = t := by
          rw [getElem!_pos d' i hlt]
          have := (List.getElem?_eq_some_iff.1 hi).2
          simpa using this
        have h3 := (Sort.HoldsK.cell H2 hlt (show 0 < 2 by omega)).1
        have h4 := (Sort.HoldsK.cell H2 hlt (show 1 < 2 by omega)).1
        rw [e3] at h3 h4
        exact ⟨h3, h4⟩
      · injection ha with ha
        subst ha
        exact (hG g).2 rfl
      · exact Nat.lt_of_lt_of_le (by have := (hG b).1 hb; injection this with this; subst this; exact hgw) hgrow
      · have hbg : g ≠ b := fun e1 => hnb ((hG b).2 (by rw [← e1]; rfl))
        unfold sortWorldK
        rw [Sort.heap_grow_old _ _ (by rw [Sort.size_putRowK]; exact hb)]
        show (w.heap.modify g _)[b]? = _
        rw [Array.getElem?_modify, if_neg hbg]
end Go.Proofs.Ytogfpakopckfoaa.Wl
