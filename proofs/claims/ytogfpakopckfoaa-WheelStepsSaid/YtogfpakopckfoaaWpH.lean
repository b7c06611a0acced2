/- The program's take: the walk. -/
import Derived.Test.YtogfpakopckfoaaWpG
namespace Go.Proofs.Ytogfpakopckfoaa.Wl
open Go.RowKit Go.Lib Go.Maps
open Sp
set_option linter.unusedVariables false
set_option maxRecDepth 100000

section
variable {W w : World} {items : List Sp.Item} {k g t : Nat} {L A : List En} {p : En → Bool} {e : En}
set_option maxHeartbeats 8000000 in
theorem take_any (h : Sp.Sep W w items) (hk : items[k]? = some (wI g t L A p)) (hA : AOk A) (ht : t < 18446744073709551616) (he : e ∈ A) (hp : p e = true) :
    Calls Try.prog 36 #[.pointer (some ⟨g, 0, none⟩), .pointer (some ⟨e.b, 0, none⟩)] w fun x w' => x = .returned (.tuple #[]) ∧ Sp.Sep W w' (items.set k (wI g t L A (fun x => p x && !(x.b == e.b)))) := by
  obtain ⟨hd, hn⟩ := en_n hA he
  have I : Sp.Sep W { w with drawn := w.drawn + 1 } items := h.drew
  have hne : Nonempty (In (fun X => Sp.Sep W X items)) := ⟨⟨_, I⟩⟩
  have f0 : ∀ jj : In (fun X => Sp.Sep W X items), jj.W.cell? ⟨g, 0, none⟩ = some (.int .u64 (t : Int)) := fun jj => by
    obtain ⟨ma, mf, v, sl, hM⟩ := wI_at jj.h hk
    exact (hM.blk.cell 0).trans (wh0 _ _ _ _)
  have f1 : ∀ jj : In (fun X => Sp.Sep W X items), jj.W.cell? ⟨e.b, 1, none⟩ = some (.int .u64 (e.n : Int)) := fun jj => by
    obtain ⟨ma, mf, v, sl, hM⟩ := wI_at jj.h hk
    obtain ⟨z, _, hz⟩ := hM.ent e he
    exact (hz.cell 1).trans (by rw [← hd]; rfl)
  have HPL := Lib.hid (fun W' => place_any t e.n W' ht hn)
  have HK := Lib.hid hk
  have HA := Lib.hid hA
  have HE := Lib.hid he
  have HP := Lib.hid hp
  clear h hk hA he hp hn hd ht
  by_cases hfar : ix t e.n = 64
  · have hpl : place t e.n = (4, 0) := place_far (ix_far.1 hfar)
    rw [hpl] at HPL
    have HX := Lib.hid hfar
    clear hfar hpl
    go_enter Try.func36, Try.ntmps36
    go_wp2_with fail
    refine region_class (fun X => Sp.Sep W X items) (by kernel_rfl) (by kernel_rfl) I ?_
    repeat (go_big_quiet_step (first
      | (go_at_call 13; with_reducible exact class_call _ (fun hi => (HPL.out _).mono fun x w' ⟨he, hb⟩ => ⟨he, hb ▸ hi⟩))))
    refine wpQuiet_nil ?_
    rintro _ ⟨jj, rfl⟩
    have SX := Lib.hid jj.h
    clear I hne f0 f1
    generalize jj.W = X at *
    clear jj
    obtain ⟨ma, mf, v, sl, hM, put⟩ := wI_take SX.out.drew HK.out
    have PUT := Lib.hid put
    clear put
    obtain ⟨z, _, hz⟩ := hM.ent e HE.out
    have x1 : X.drew.cell? ⟨g, 66, none⟩ = some (.map (some mf)) := (hM.blk.cell _).trans (wh66 _ _ _ _)
    have y0 : X.drew.cell? ⟨e.b, 0, none⟩ = some (.string e.t.i) := hz.cell 0
    have hrun : ∃ w2, (∀ ty, (Builtin.delete_ #[61, 9] ty #[.map (some mf), .string e.t.i]).run Try.prog X.drew = .ok (.tuple #[]) w2) ∧ MemW w2 g ma mf v sl t L A (fun x => p x && !(x.b == e.b)) ∧ Only (Foot g ma mf v A) X.drew w2 := by
      obtain ⟨w2, h1, h2, h3⟩ := hM.fardel HA.out HE.out HP.out HX.out 0
      exact ⟨w2, fun ty => h1, h2, h3⟩
    obtain ⟨w2, hrun, hM2, ho⟩ := hrun
    have HM := Lib.hid hM2
    have HO := Lib.hid ho
    clear hM hM2 ho hz
    go_wp2_with fail
    go_region_law (refine step_del rfl (.tmp 26) (.tmp 31) rfl (.map (some mf)) (.string e.t.i) (by simp [Act.eval]) (by simp [Act.eval]) hrun ?_)
    all_goals (try go_wp2_with fail)
    all_goals (
      refine bodyPost_ret (results_none rfl _ _ _) rfl ?_
      exact ⟨rfl, PUT.out _ _ _ _ _ _ _ HM.out HO.out fun b hb => .inl hb⟩)
  · have hlt : ix t e.n < 64 := by have := ix_le t e.n; omega
    obtain ⟨e1, e2, e3⟩ := ix_near hlt
    have hpl : place t e.n = (ix t e.n / 16, ix t e.n % 16) := by rw [← e1, ← e2]
    rw [hpl] at HPL
    obtain ⟨q, hq⟩ : ∃ q, ix t e.n = q := ⟨_, rfl⟩
    rw [hq] at HPL hlt
    have HX := Lib.hid hq
    obtain ⟨l, hl⟩ : ∃ l, q / 16 = l := ⟨_, rfl⟩
    obtain ⟨s, hs⟩ : ∃ s, q % 16 = s := ⟨_, rfl⟩
    rw [hl, hs] at HPL
    have hqq : 2 + l * 16 + s = 2 + q := by omega
    have l4 : (l : Int) < 4 := by omega
    have s16 : (s : Int) < 16 := by omega
    have l4' : ¬ ((l : Int) = 4) := by omega
    have HQ := Lib.hid hlt
    have HQQ := Lib.hid hqq
    clear hq hpl hlt hqq hl hs hfar e1 e2 e3
    go_enter Try.func36, Try.ntmps36
    go_wp2_with fail
    refine region_class (fun X => Sp.Sep W X items) (by kernel_rfl) (by kernel_rfl) I ?_
    repeat (go_big_quiet_step (first
      | (go_at_call 13; with_reducible exact class_call _ (fun hi => (HPL.out _).mono fun x w' ⟨he, hb⟩ => ⟨he, hb ▸ hi⟩))))
    refine wpQuiet_nil ?_
    rintro _ ⟨jj, rfl⟩
    have SX := Lib.hid jj.h
    clear I hne f0 f1
    generalize jj.W = X at *
    clear jj
    obtain ⟨ma, mf, v, sl, hM, put⟩ := wI_take SX.out HK.out
    have PUT := Lib.hid put
    clear put
    have hin : e ∈ sl q := (hM.in_sl HQ.out).2 ⟨HE.out, HP.out, HX.out⟩
    obtain ⟨j, hj⟩ := List.mem_iff_getElem?.1 hin
    have hjm := (List.getElem?_eq_some_iff.1 hj).1
    obtain ⟨m, hm⟩ : ∃ m, (sl q).length = m + 1 := ⟨(sl q).length - 1, by omega⟩
    obtain ⟨b, hb⟩ : ∃ b, (sl q)[m]? = some b := ⟨_, List.getElem?_eq_getElem (by omega)⟩
    have hbA := ((hM.in_sl HQ.out).1 (List.mem_of_getElem? hb)).1
    have hm2 := hM.len HA.out.n HQ.out
    have hBe := hM.at_ q HQ.out j e hj
    have hBb := hM.at_ q HQ.out m b hb
    obtain ⟨r, cap, cur, hv, _, hr, hc1, hc2, hc3, hc4⟩ : ∃ r cap cur, v q = .slice (some ⟨r, 0, none⟩) (sl q).length cap ∧ 0 ≤ r ∧ X.heap[r]? = some (.cells cur 75 (0, 0)) ∧ (sl q).length ≤ cap ∧ cap ≤ maxLen ∧ cur.size = cap * 1 ∧ cur.toList.take ((sl q).length * 1) = (sl q).map En.ptr := by
      rcases (hM.row q HQ.out).2 with ⟨_, h2⟩ | h2
      · omega
      · exact h2
    rw [hm] at hv hc1 hc4 hm2
    rw [Nat.mul_one] at hc3 hc4
    have hr : Sp.Blk X r 75 cur := hr
    have hrv : (v q).ownBlock = some r := by rw [hv]; rfl
    have gr : r ≠ g := hM.r_g HQ.out hrv
    have ge : g ≠ e.b := hM.g_e HE.out
    have gb : g ≠ b.b := hM.g_e hbA
    have re : r ≠ e.b := hM.r_e HQ.out hrv HE.out
    have rb : r ≠ b.b := hM.r_e HQ.out hrv hbA
    have cg : ∀ (i : Nat) (x : En), (sl q)[i]? = some x → cur[i]? = some (Value.pointer (some ⟨x.b, 0, none⟩)) := fun i x hi => by
      have h1 := (List.getElem?_eq_some_iff.1 hi).1
      have h2 : (cur.toList.take (m + 1))[i]? = ((sl q).map En.ptr)[i]? := by rw [hc4]
      rw [List.getElem?_take_of_lt (by omega), List.getElem?_map, hi] at h2
      simpa [En.ptr] using h2
    have x1 : X.cell? ⟨g, 2 + l * 16 + s, none⟩ = some (.slice (some ⟨r, 0, none⟩) (m + 1) cap) := by rw [HQQ.out, ← hv]; exact (hM.blk.cell _).trans (whk _ _ _ _ HQ.out)
    have y1 : X.cell? ⟨e.b, 2, none⟩ = some (.int .i64 (j : Int)) := hBe.cell 2
    have y2 : X.cell? ⟨r, m, none⟩ = some (.pointer (some ⟨b.b, 0, none⟩)) := (hr.cell m).trans (cg m b hb)
    have y3 : X.cell? ⟨r, j, none⟩ = some (.pointer (some ⟨e.b, 0, none⟩)) := (hr.cell j).trans (cg j e hj)
    have y4 : X.frozen? ⟨r, j, none⟩ = false := hr.frozen j
    have jm : (j : Int) < (m : Int) + 1 := by omega
    have w1 : IntKind.i64.wrap ((m : Int) + 1 - 1) = (m : Int) := by rw [show (m : Int) + 1 - 1 = (m : Int) by omega]; exact IntWalk.i64_in _ (by omega)
    have w2 : IntKind.i64.wrap (m : Int) = (m : Int) := IntWalk.i64_in _ (by omega)
    obtain ⟨c1, hc1e⟩ : ∃ c, cur.setIfInBounds j (.pointer (some ⟨b.b, 0, none⟩)) = c := ⟨_, rfl⟩
    have eset : X.setCell ⟨r, j, none⟩ (.pointer (some ⟨b.b, 0, none⟩)) = X.setRow r c1 := by rw [← hc1e]; exact set_row hr j _
    have R1 : Sp.Blk (X.setRow r c1) r 75 c1 := hr.row c1
    have O1 : Hid (∀ c, c ≠ r → (X.setRow r c1).heap[c]? = X.heap[c]?) := Lib.hid (fun c hc => setRow_other _ _ _ _ hc)
    have N1 : Hid (Only (Foot g ma mf v A) X (X.setRow r c1)) := Lib.hid ((Only.refl _ _).setRow (.inl (.inr (.inr (.inr (.inr ⟨q, HQ.out, hrv⟩))))) _)
    have cm : c1[m]? = some (Value.pointer (some ⟨b.b, 0, none⟩)) := by
      rw [← hc1e, Array.getElem?_setIfInBounds]
      by_cases e1 : j = m
      · rw [if_pos e1, if_pos (by omega)]
      · rw [if_neg e1]; exact cg m b hb
    have cj : c1[j]? = some (Value.pointer (some ⟨b.b, 0, none⟩)) := by rw [← hc1e, Array.getElem?_setIfInBounds_self_of_lt (by omega)]
    have HCG := Lib.hid cg
    have HC1 := Lib.hid hc1e
    have HC4 := Lib.hid hc4
    have HC3 := Lib.hid hc3
    have HCC := Lib.hid hc2
    have HCP := Lib.hid hc1
    have HM0 := Lib.hid hM
    have HV := Lib.hid hv
    have HJ := Lib.hid hj
    have HB := Lib.hid hb
    have HBA := Lib.hid hbA
    have HM1 := Lib.hid hm
    clear cg hc1e hc4 hc3 hc2 hM hv hj hb hbA hm hin hjm hrv
    go_upto_region 5 with fail
    go_region
    clear eset x1 y1 y2 y3 y4
    have X1e : Sp.Blk (X.setRow r c1) e.b 77 (enC e j) := (O1.out _ re.symm).trans hBe
    have X1b : Sp.Blk (X.setRow r c1) b.b 77 (enC b m) := (O1.out _ rb.symm).trans hBb
    clear hr hBe hBb
    generalize X.setRow r c1 = Y at *
    have y1 : Y.cell? ⟨e.b, 2, none⟩ = some (.int .i64 (j : Int)) := X1e.cell 2
    have y2 : Y.cell? ⟨r, j, none⟩ = some (.pointer (some ⟨b.b, 0, none⟩)) := (R1.cell j).trans cj
    have y3 : Y.cell? ⟨b.b, 2, none⟩ = some (.int .i64 (m : Int)) := X1b.cell 2
    have y4 : Y.frozen? ⟨b.b, 2, none⟩ = false := X1b.frozen 2
    have eset : Y.setCell ⟨b.b, 2, none⟩ (.int .i64 (j : Int)) = Y.setRow b.b (enC b j) := set_row X1b 2 _
    have R2 : Sp.Blk (Y.setRow b.b (enC b j)) r 75 c1 := (setRow_other _ _ _ _ rb).trans R1
    have X2b : Sp.Blk (Y.setRow b.b (enC b j)) b.b 77 (enC b j) := X1b.row _
    have O2 : Hid (∀ c, c ≠ r → c ≠ b.b → (Y.setRow b.b (enC b j)).heap[c]? = X.heap[c]?) := Lib.hid (fun c hc hc2 => (setRow_other _ _ _ _ hc2).trans (O1.out c hc))
    have N2 : Hid (Only (Foot g ma mf v A) X (Y.setRow b.b (enC b j))) := Lib.hid (N1.out.setRow (.inl (.inr (.inr (.inr (.inl ⟨b, HBA.out, rfl⟩))))) _)
    clear X1e X1b R1 O1 N1
    go_wp2_with fail
    go_region
    clear eset y1 y2 y3 y4
    generalize Y.setRow b.b (enC b j) = Z at *
    clear Y
    have y1 : Z.cell? ⟨r, m, none⟩ = some (.pointer (some ⟨b.b, 0, none⟩)) := (R2.cell m).trans cm
    have y2 : Z.frozen? ⟨r, m, none⟩ = false := R2.frozen m
    obtain ⟨c2, hc2e⟩ : ∃ c, c1.setIfInBounds m (.pointer none) = c := ⟨_, rfl⟩
    have eset : Z.setCell ⟨r, m, none⟩ (.pointer none) = Z.setRow r c2 := by rw [← hc2e]; exact set_row R2 m _
    have R3 : Sp.Blk (Z.setRow r c2) r 75 c2 := R2.row c2
    have X3b : Sp.Blk (Z.setRow r c2) b.b 77 (enC b j) := (setRow_other _ _ _ _ rb.symm).trans X2b
    have O3 : Hid (∀ c, c ≠ r → c ≠ b.b → (Z.setRow r c2).heap[c]? = X.heap[c]?) := Lib.hid (fun c hc hc2 => (setRow_other _ _ _ _ hc).trans (O2.out c hc hc2))
    have N3 : Hid (Only (Foot g ma mf v A) X (Z.setRow r c2)) := Lib.hid (N2.out.setRow (.inl (.inr (.inr (.inr (.inr ⟨q, HQ.out, by rw [HV.out]; rfl⟩))))) _)
    have HC2 := Lib.hid hc2e
    clear hc2e R2 X2b O2 N2
    go_upto_region 8 with fail
    clear eset y1 y2
    generalize Z.setRow r c2 = U at *
    clear Z
    have G3 : Sp.Blk U g 66 (whC t ma mf v) := (O3.out g gr.symm gb).trans HM0.out.blk
    have y1 : U.cell? ⟨g, 2 + l * 16 + s, none⟩ = some (.slice (some ⟨r, 0, none⟩) (m + 1) cap) := by rw [HQQ.out, ← HV.out]; exact (G3.cell _).trans (whk _ _ _ _ HQ.out)
    have y2 : U.frozen? ⟨g, 2 + l * 16 + s, none⟩ = false := G3.frozen _
    have eset : U.setCell ⟨g, 2 + l * 16 + s, none⟩ (.slice (some ⟨r, 0, none⟩) m cap) = U.setRow g (whC t ma mf (upd v q (.slice (some ⟨r, 0, none⟩) m cap))) := by
      rw [HQQ.out, set_row G3, wh_set _ _ _ _ HQ.out]
    have R4 : Hid (Sp.Blk (U.setRow g (whC t ma mf (upd v q (.slice (some ⟨r, 0, none⟩) m cap)))) r 75 c2) := Lib.hid ((setRow_other _ _ _ _ gr).trans R3)
    have X4b : Hid (Sp.Blk (U.setRow g (whC t ma mf (upd v q (.slice (some ⟨r, 0, none⟩) m cap)))) b.b 77 (enC b j)) := Lib.hid ((setRow_other _ _ _ _ gb.symm).trans X3b)
    have G4 : Hid (Sp.Blk (U.setRow g (whC t ma mf (upd v q (.slice (some ⟨r, 0, none⟩) m cap)))) g 66 (whC t ma mf (upd v q (.slice (some ⟨r, 0, none⟩) m cap)))) := Lib.hid (G3.row _)
    have O4 : Hid (∀ c, c ≠ g → c ≠ r → c ≠ b.b → (U.setRow g (whC t ma mf (upd v q (.slice (some ⟨r, 0, none⟩) m cap)))).heap[c]? = X.heap[c]?) := Lib.hid (fun c hc hc2 hc3 => (setRow_other _ _ _ _ hc).trans (O3.out c hc2 hc3))
    have N4 : Hid (Only (Foot g ma mf v A) X (U.setRow g (whC t ma mf (upd v q (.slice (some ⟨r, 0, none⟩) m cap))))) := Lib.hid (N3.out.setRow (.inl (.inl rfl)) _)
    clear R3 X3b O3 N3 G3
    have mc : (m : Int) ≤ (cap : Int) := by have := HCP.out; omega
    have mc2 : m ≤ cap := by have := HCP.out; omega
    go_region
    all_goals (try go_wp2_with fail)
    all_goals (
      go_end0
      refine ⟨rfl, ?_⟩
      generalize U.setRow g (whC t ma mf (upd v q (.slice (some ⟨r, 0, none⟩) m cap))) = V at *
      have hown : V.ownsRow 0 75 1 (.slice (some ⟨r, 0, none⟩) m cap) m ((swp (sl q) j b).map En.ptr) := by
        refine ⟨by rw [List.length_map, swp_len, HM1.out]; omega, .inr ⟨r, cap, c2, rfl, Nat.zero_le _, R4.out, mc2, HCC.out, by rw [← HC2.out, Array.size_setIfInBounds, ← HC1.out, Array.size_setIfInBounds, HC3.out, Nat.mul_one], ?_⟩⟩
        rw [Nat.mul_one]
        apply List.ext_getElem?
        intro i
        rcases Nat.lt_or_ge i m with h1 | h1
        · rw [List.getElem?_take_of_lt h1, List.getElem?_map, swp_get (by rw [HM1.out]; omega), Array.getElem?_toList, ← HC2.out, Array.getElem?_setIfInBounds_ne (by omega), ← HC1.out]
          by_cases e1 : i = j
          · subst e1
            rw [if_pos rfl, Array.getElem?_setIfInBounds_self_of_lt (by have := HC3.out; have := HCP.out; omega)]
            rfl
          · rw [if_neg e1, Array.getElem?_setIfInBounds_ne (fun e2 => e1 e2.symm)]
            obtain ⟨x9, h3⟩ : ∃ x9, (sl q)[i]? = some x9 := ⟨_, List.getElem?_eq_getElem (by rw [HM1.out]; omega)⟩
            rw [h3, HCG.out i _ h3]
            rfl
        · rw [List.getElem?_eq_none (by simp; omega), List.getElem?_eq_none (by rw [List.length_map, swp_len, HM1.out]; omega)]
      have hP := HM0.out.pull HA.out HE.out HP.out HQ.out HX.out HM1.out HJ.out HB.out HV.out G4.out hown X4b.out (fun c _ => O4.out c)
      refine PUT.out _ _ _ _ _ _ _ (hP.same (fun _ _ => rfl)) ?_ ?_
      · exact ⟨N4.out.os, N4.out.tape, N4.out.output, N4.out.size, N4.out.block⟩
      · rintro c (h1 | h1 | h1 | h1 | ⟨i, hi, h1⟩)
        · exact .inl (.inl h1)
        · exact .inl (.inr (.inl h1))
        · exact .inl (.inr (.inr (.inl h1)))
        · exact .inl (.inr (.inr (.inr (.inl h1))))
        · refine .inl (.inr (.inr (.inr (.inr ⟨i, hi, ?_⟩))))
          by_cases e1 : i = q
          · subst e1
            rw [upd_at] at h1
            rw [HV.out]
            exact h1
          · rw [upd_ne e1] at h1
            exact h1)
end
end Go.Proofs.Ytogfpakopckfoaa.Wl
