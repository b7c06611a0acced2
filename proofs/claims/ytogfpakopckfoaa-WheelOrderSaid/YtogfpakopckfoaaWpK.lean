/- The program's Levels. -/
import Derived.Test.YtogfpakopckfoaaWpJ
import Derived.Deep.MidRow
import Derived.Laws.ResultCell
namespace Go.Proofs.Ytogfpakopckfoaa.Wl
open Go.RowKit Go.Lib Go.Maps
open Sp
set_option linter.unusedVariables false
set_option maxRecDepth 100000

def sm (f : Nat → Nat) : Nat → Nat
  | 0 => 0
  | n + 1 => sm f n + f n
theorem count_two {A : List En} {p q r : En → Bool} (h1 : ∀ e, r e = true ↔ p e = true ∨ q e = true) (h2 : ∀ e, p e = true → q e = false) : (A.filter p).length + (A.filter q).length = (A.filter r).length := by
  induction A with
  | nil => rfl
  | cons a A ih =>
    by_cases hp : p a = true
    · have hq := h2 a hp
      have hr := (h1 a).2 (.inl hp)
      rw [List.filter_cons_of_pos hp, List.filter_cons_of_neg (by simp [hq]), List.filter_cons_of_pos hr, List.length_cons, List.length_cons]
      omega
    · by_cases hq : q a = true
      · have hr := (h1 a).2 (.inr hq)
        rw [List.filter_cons_of_neg hp, List.filter_cons_of_pos hq, List.filter_cons_of_pos hr, List.length_cons, List.length_cons]
        omega
      · have hr : ¬ r a = true := fun h => by rcases (h1 a).1 h with h | h; exact hp h; exact hq h
        rw [List.filter_cons_of_neg hp, List.filter_cons_of_neg hq, List.filter_cons_of_neg hr]
        exact ih
theorem sm_count (A : List En) (t L : Nat) : ∀ n, sm (fun S => (A.filter (slP t allP (16 * L + S))).length) n = (A.filter (fun e => decide (16 * L ≤ ix t e.n ∧ ix t e.n < 16 * L + n))).length
  | 0 => by
    rw [List.filter_eq_nil_iff.2]
    · rfl
    · intro a _
      rw [decide_eq_true_iff]
      omega
  | n + 1 => by
    unfold sm
    rw [sm_count A t L n]
    refine count_two (fun e => ?_) (fun e he => ?_)
    · simp [slP, allP]
      omega
    · simp [slP, allP] at he ⊢
      omega
theorem cnt_len (A : List En) (t k : Nat) : cnt (t : Int) (A.map En.t) k = (A.filter (fun e => decide ((place t e.n).1 = k))).length := by
  unfold cnt
  rw [List.countP_map, List.countP_eq_length_filter]
  rfl
theorem cnt_near (A : List En) (t : Nat) {L : Nat} (hL : L < 4) : cnt (t : Int) (A.map En.t) L = sm (fun S => (A.filter (slP t allP (16 * L + S))).length) 16 := by
  rw [cnt_len, sm_count]
  congr 1
  refine List.filter_congr fun e _ => ?_
  have h1 := (place_lt t e.n)
  have h2 : ix t e.n = 16 * (place t e.n).1 + (place t e.n).2 := rfl
  rw [decide_eq_decide]
  omega
theorem cnt_far (A : List En) (t : Nat) : cnt (t : Int) (A.map En.t) 4 = (A.filter (slP t allP 64)).length := by
  rw [cnt_len]
  congr 1
  refine List.filter_congr fun e _ => ?_
  simp only [slP, allP, Bool.true_and]
  rw [decide_eq_decide]
  exact ix_far.symm
theorem run_slot {w : World} {cs : List Value} {q n cv : Nat} {Av : Option Addr} (hl : cs.length = 16) (h : cs[q]? = some (.slice Av n cv)) : (Instr.index 63 (.agg cs.toArray) (.int .i64 (q : Int))).run Try.prog w = .ok (.slice Av n cv) w := by
  have hq : q < 16 := by have := (List.getElem?_eq_some_iff.1 h).1; omega
  have h2 : cs.toArray[q]? = some (.slice Av n cv) := by simpa using h
  have hs := Try.sizeOf62
  have ha := Try.isAgg62
  simp [Instr.index, run_underlying Try.underlying63, go_sem]
  rw [if_pos hq, h]
  rfl
section
variable {W w w' : World} {items : List Sp.Item} {k g t ma mf : Nat} {v : Nat → Value} {sl : Nat → List En} {L A : List En} {p : En → Bool} {e : En}
set_option maxHeartbeats 8000000 in
theorem levels_any {s : Wh} (h : Sp.Sep W w items) (hk : items[k]? = some (WI g s)) : Calls Try.prog 21 #[.pointer (some ⟨g, 0, none⟩)] w fun e w' => e = .returned (.agg (csI (cnI s.t s.l))) ∧ Below w.heap.size w w' := by
  obtain ⟨A, hA, hl, ht, h1⟩ := WI_open h hk
  obtain ⟨ma, mf, v, sl, hM⟩ := wI_at h1 (set_at hk _)
  generalize s.t.toNat = t at *
  obtain ⟨st, sl0⟩ := s
  simp only at hl ht
  subst hl ht
  simp only
  obtain ⟨F, hF⟩ : ∃ F, (A.filter (slP t allP 64)).length = F := ⟨_, rfl⟩
  have HF := Lib.hid hF
  have HA := Lib.hid hA
  have S0 : Sp.Sep w (w.alloc (.cells (csI (fun _ => 0)) 48)) [locI [(w.heap.size, 48, csI (fun _ => 0))]] := loc_alloc (Sp.Sep.nil (Below.refl _ w)) 48 _
  have hM1 : MemW (w.alloc (.cells (csI (fun _ => 0)) 48)) g ma mf v sl t A A allP := hM.same (fun b hb => Below.heap_alloc _ _ _ (hM.lt b hb))
  have x66 : (w.alloc (.cells (csI (fun _ => 0)) 48)).cell? ⟨g, 66, none⟩ = some (.map (some mf)) := (hM1.blk.cell 66).trans (wh66 _ _ _ _)
  obtain ⟨D, hD, hMD⟩ := hM1.fm
  have hlr := fun ty => hD.len (t := 61) Try.underlying61 ty
  rw [hMD.sz, hF] at hlr
  have HM := Lib.hid hM
  clear h hk hA h1 hM hM1 hD hMD hF
  go_enter Try.func21, Try.ntmps21
  go_upto_region 1 with fail
  change Code.wp _ _ _ _ (w.alloc (.cells (csI (fun _ => 0)) 48))
  have HS0 := Lib.hid S0
  clear S0
  generalize w.alloc (.cells (csI (fun _ => 0)) 48) = w1 at *
  obtain ⟨rb, erb⟩ : ∃ z, w.heap.size = z := ⟨_, rfl⟩
  rw [erb] at HS0
  have HRB : Hid (w.heap.size = rb) := Lib.hid erb
  rw [erb]
  clear erb
  have S1 := Lib.hid (loc_alloc HS0.out 48 (csI (fun k => if k = 4 then (F : Int) else 0)))
  go_upto_region 3 with fail
  change Code.wp _ _ _ _ (w1.alloc (.cells (csI (fun k => if k = 4 then (F : Int) else 0)) 48))
  clear hlr x66
  generalize w1.alloc (.cells (csI (fun k => if k = 4 then (F : Int) else 0)) 48) = w2 at *
  generalize w1.heap.size = cb at *
  have HLL : ∀ l, l < 4 → Hid (cnt (t : Int) (A.map En.t) l = sm (fun S => (sl (16 * l + S)).length) 16) := fun l hl => Lib.hid (by
    rw [cnt_near A t hl]
    have : ∀ n, n ≤ 16 → sm (fun S => (A.filter (slP t allP (16 * l + S))).length) n = sm (fun S => (sl (16 * l + S)).length) n := fun n => by
      induction n with
      | zero => intro _; rfl
      | succ n ih =>
        intro hn
        unfold sm
        rw [ih (by omega), (HM.out.per (16 * l + n) (by omega)).length_eq]
    exact this 16 (by omega))
  have HSB : Hid (∀ k, k < 64 → (sl k).length ≤ 200) := Lib.hid (fun k hk => HM.out.len HA.out.n hk)
  have HI0 : Hid (Sp.Sep w w2 [locI [(rb, 48, csI (fun _ => 0))], locI [(cb, 48, csI (fun k => if k = 4 then (F : Int) else if k < 0 then cnI (t : Int) (A.map En.t) k else 0))]]) := Lib.hid S1.out
  clear HS0 S1
  go_loopg [13] 4 (fun gk s13 wr => ∃ (l : Nat), l ≤ 4 ∧ gk = 4 - l ∧ s13 = .int .i64 (l : Nat) ∧ Hid (Sp.Sep w wr [locI [(rb, 48, csI (fun _ => 0))], locI [(cb, 48, csI (fun k => if k = 4 then (F : Int) else if k < l then cnI (t : Int) (A.map En.t) k else 0))]]))
  case atStart => exact ⟨0, by omega, rfl, rfl, HI0⟩
  case round =>
    obtain ⟨l, hl4, hgk, rfl, HI⟩ := hrel
    have HGK := Lib.hid hgk
    clear hgk HI0
    by_cases hlt : l < 4
    · have hli : (l : Int) < 4 := by omega
      have wl : IntKind.i64.wrap ((l : Int) + 1) = (l : Int) + 1 := IntWalk.i64_in _ (by omega)
      have HM2 : MemW wr g ma mf v sl t A A allP := HM.out.same (fun b hb => HI.out.below.block b (HM.out.lt b hb))
      obtain ⟨cs, hcs⟩ : ∃ cs, (List.range 16).map (fun S => v (16 * l + S)) = cs := ⟨_, rfl⟩
      have hra : wr.rangeAt g (2 + l * 16) cs := fun j x hj => by
        rw [← hcs, List.getElem?_map] at hj
        have hj16 : j < 16 := by
          rcases Nat.lt_or_ge j 16 with h9 | h9
          · exact h9
          · rw [List.getElem?_eq_none (by simpa using h9)] at hj; cases hj
        rw [List.getElem?_range hj16] at hj
        injection hj with hj
        rw [← hj, show 2 + l * 16 + j = 2 + (16 * l + j) by omega]
        exact (HM2.blk.cell _).trans (whk _ _ _ _ (by omega))
      have hinf : (Try.prog.info? 63).map (·.size) = some cs.length := by
        rw [← hcs, List.length_map, List.length_range]
        kernel_rfl
      have HCS : Hid (∀ q, q < 16 → ∃ Av cv, cs[q]? = some (.slice Av (sl (16 * l + q)).length cv)) := Lib.hid (fun q hq => by
        obtain ⟨Av, cv, h9⟩ := HM.out.slc (q := 16 * l + q) (by omega)
        refine ⟨Av, cv, ?_⟩
        rw [← hcs, List.getElem?_map, List.getElem?_range hq, ← h9]
        rfl)
      have HCL : Hid (cs.length = 16) := Lib.hid (by rw [← hcs]; simp)
      clear hcs HM2
      go_upto_region 6 with (refine wpList_load_mid rfl 63 (.tmp 20) rfl g (2 + l * 16) rfl cs _ hra Try.underlying63 rfl hinf ?_; clear hra hinf)
      obtain ⟨cO, hcO⟩ : ∃ c : Nat → Int, (fun k => if k = 4 then (F : Int) else if k < l then cnI (t : Int) (A.map En.t) k else 0) = c := ⟨_, rfl⟩
      rw [hcO] at HI
      have HCO := Lib.hid hcO
      have HJ0 : Hid (Sp.Sep w wr [locI [(rb, 48, csI (fun _ => 0))], locI [(cb, 48, csI (fun k => if k = l then ((sm (fun S => (sl (16 * l + S)).length) 0 : Nat) : Int) else cO k))]]) := Lib.hid (by
        have : (fun k => if k = l then ((sm (fun S => (sl (16 * l + S)).length) 0 : Nat) : Int) else cO k) = cO := by
          funext k
          by_cases e1 : k = l
          · subst e1
            rw [if_pos rfl, ← hcO]
            simp [sm, show k ≠ 4 by omega]
          · rw [if_neg e1]
        rw [this]
        exact HI.out)
      clear hcO HI
      go_loopg [22] 16 (fun gk2 s22 wr2 => ∃ (q : Nat), q ≤ 16 ∧ gk2 = 16 - q ∧ s22 = .int .i64 (q : Nat) ∧ Hid (Sp.Sep w wr2 [locI [(rb, 48, csI (fun _ => 0))], locI [(cb, 48, csI (fun k => if k = l then ((sm (fun S => (sl (16 * l + S)).length) q : Nat) : Int) else cO k))]]))
      case atStart => exact ⟨0, by omega, rfl, rfl, HJ0⟩
      case round =>
        obtain ⟨q, hq, hgk2, rfl, HJ⟩ := hrel
        have HGK2 := Lib.hid hgk2
        clear hgk2 HJ0
        by_cases hlt2 : q < 16
        · have hqi : (q : Int) < 16 := by omega
          have wq : IntKind.i64.wrap ((q : Int) + 1) = (q : Int) + 1 := IntWalk.i64_in _ (by omega)
          obtain ⟨Av, cv, hcq⟩ := HCS.out q hlt2
          obtain ⟨n, hn⟩ : ∃ n, (sl (16 * l + q)).length = n := ⟨_, rfl⟩
          have hn2 : n ≤ 200 := by rw [← hn]; exact HSB.out _ (by omega)
          rw [hn] at hcq
          have hix := run_slot (w := wr) HCL.out hcq
          obtain ⟨M, hM⟩ : ∃ M, sm (fun S => (sl (16 * l + S)).length) q = M := ⟨_, rfl⟩
          have hM2 : M ≤ 200 * q := by
            rw [← hM]
            have : ∀ z, z ≤ 16 → sm (fun S => (sl (16 * l + S)).length) z ≤ 200 * z := fun z => by
              induction z with
              | zero => intro _; simp [sm]
              | succ z ih =>
                intro hz
                have h1 := ih (by omega)
                have h2 := HSB.out (16 * l + z) (by omega)
                unfold sm
                omega
            exact this q (by omega)
          have HS9 : Hid (sm (fun S => (sl (16 * l + S)).length) (q + 1) = M + n) := Lib.hid (by unfold sm; rw [hM, hn])
          rw [hM] at HJ
          have hbk := loc_blk HJ.out (k := 1) rfl
          have x0 : wr.cell? ⟨cb, l, none⟩ = some (.int .i64 (M : Int)) := (hbk.cell l).trans ((csI_get _ (by omega)).trans (by rw [if_pos rfl]))
          have x1 : wr.frozen? ⟨cb, l, none⟩ = false := hbk.frozen l
          have wc : IntKind.i64.wrap ((M : Int) + (n : Int)) = (M : Int) + (n : Int) := IntWalk.i64_in _ (by omega)
          have l5 : (l : Int) < 5 := by omega
          have HL5 : Hid (Sp.Sep w (wr.setCell ⟨cb, l, none⟩ (.int .i64 ((M : Int) + (n : Int)))) [locI [(rb, 48, csI (fun _ => 0))], locI [(cb, 48, csI (fun k => if k = l then ((M + n : Nat) : Int) else cO k))]]) := Lib.hid (by
            have h1 := loc_cell HJ.out (k := 1) rfl l (.int .i64 ((M : Int) + (n : Int)))
            rw [csI_set _ (by omega)] at h1
            have e9 : (fun k => if k = l then ((M : Int) + (n : Int)) else if k = l then (M : Int) else cO k) = (fun k => if k = l then ((M + n : Nat) : Int) else cO k) := by
              funext k
              by_cases e1 : k = l
              · rw [if_pos e1, if_pos e1]; omega
              · rw [if_neg e1, if_neg e1, if_neg e1]
            rw [e9] at h1
            exact h1)
          clear hbk HJ hM hn hM2
          go_wp2_with fail
          go_roundg (16 - (q + 1))
          case measure => have := HGK2.out; omega
          case rel => exact ⟨q + 1, by omega, by have := HGK2.out; omega, by go_num, by rw [HS9.out]; exact HL5⟩
        · obtain rfl : q = 16 := by omega
          have HJ2 : Hid (Sp.Sep w wr [locI [(rb, 48, csI (fun _ => 0))], locI [(cb, 48, csI (fun k => if k = 4 then (F : Int) else if k < l + 1 then cnI (t : Int) (A.map En.t) k else 0))]]) := Lib.hid (by
            have e9 : (fun k => if k = l then ((sm (fun S => (sl (16 * l + S)).length) 16 : Nat) : Int) else cO k) = (fun k => if k = 4 then (F : Int) else if k < l + 1 then cnI (t : Int) (A.map En.t) k else 0) := by
              funext k
              have h9 : cO k = (if k = 4 then (F : Int) else if k < l then cnI (t : Int) (A.map En.t) k else 0) := by rw [← HCO.out]
              rw [h9, ← (HLL l hlt).out]
              by_cases e1 : k = l
              · subst e1
                rw [if_pos rfl, if_neg (by omega), if_pos (by omega)]
                rfl
              · rw [if_neg e1]
                by_cases e2 : k = 4
                · rw [if_pos e2, if_pos e2]
                · rw [if_neg e2, if_neg e2]
                  by_cases e3 : k < l
                  · rw [if_pos e3, if_pos (by omega)]
                  · rw [if_neg e3, if_neg (by omega)]
            rw [← e9]
            exact HJ.out)
          clear HJ
          go_wp2_with fail
          go_roundg (4 - (l + 1))
          case measure => have := HGK.out; omega
          case rel => exact ⟨l + 1, by omega, by have := HGK.out; omega, by go_num, HJ2⟩
    · obtain rfl : l = 4 := by omega
      have HE : Hid (Sp.Sep w wr [locI [(rb, 48, csI (fun _ => 0))], locI [(cb, 48, csI (cnI (t : Int) (A.map En.t)))]]) := Lib.hid (by
        have e9 : csI (fun k => if k = 4 then (F : Int) else if k < 4 then cnI (t : Int) (A.map En.t) k else 0) = csI (cnI (t : Int) (A.map En.t)) := by
          have h4 : cnI (t : Int) (A.map En.t) 4 = (F : Int) := by
            unfold cnI
            rw [cnt_far, HF.out]
          simp [csI, h4]
        rw [← e9]
        exact HI.out)
      clear HI
      have hB1 : wr.heap[cb]? = some (.cells (csI (cnI (t : Int) (A.map En.t))) 48 (0, 0)) := loc_blk HE.out (k := 1) rfl
      have hB0 : wr.heap[rb]? = some (.cells (csI (fun _ => 0)) 48 (0, 0)) := loc_blk HE.out (k := 0) rfl
      have hin : (Try.prog.info? 48).map (·.size) = some (csI (cnI (t : Int) (A.map En.t))).size := by kernel_rfl
      obtain ⟨cz, hcz⟩ : ∃ c, cnI (t : Int) (A.map En.t) = c := ⟨_, rfl⟩
      have HCZ := Lib.hid hcz
      rw [hcz] at hB1 hin HE
      clear hcz
      have hsz : (csI (fun _ => 0)).size = (csI cz).size := rfl
      have hone : (csI cz).all (·.oneCell') = true := by simp [csI, Value.oneCell']
      have HB9 : Hid (Below w.heap.size w (wr.setRow rb (csI cz))) := Lib.hid (below_row HE.out.below (by have := HRB.out; omega) _)
      go_wp2_with (first | (with_reducible refine wpList_load_row rfl 48 (.tmp 3) rfl cb rfl 48 (csI cz) (0, 0) _ hB1 Try.underlying48 rfl hin ?_) | (with_reducible refine wpList_store_row rfl 48 (.tmp 2) (.tmp 34) rfl rb (csI cz) rfl rfl 48 (csI (fun _ => 0)) hB0 hin hsz hone ?_))
      have hh : (wr.setRow rb (csI cz)).heap[rb]? = some (.cells (csI cz) 48 (0, 0)) := Sp.Blk.row (show Sp.Blk wr rb 48 (csI (fun _ => 0)) from hB0) (csI cz)
      refine bodyPost_ret (v := .agg (csI cz)) (results_cell_row (by rfl) _ _ rb _ (csI cz) _ _ (by rfl) hh Try.underlying48 rfl hin) rfl ⟨by rw [HCZ.out], HB9.out⟩
end
end Go.Proofs.Ytogfpakopckfoaa.Wl
