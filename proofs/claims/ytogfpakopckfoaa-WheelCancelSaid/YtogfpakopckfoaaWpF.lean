/- The program's put. -/
import Derived.Test.YtogfpakopckfoaaWpE
import Derived.Test.YtogfpakopckfoaaClass
import Derived.Deep.RegionLaw
import Derived.RegionTactic
import Derived.BigRegion
namespace Go.Proofs.Ytogfpakopckfoaa.Wl
open Go.RowKit Go.Lib Go.Maps
open Sp
set_option linter.unusedVariables false
set_option maxRecDepth 100000

section
variable {W w : World} {items : List Sp.Item} {k g t : Nat} {L A : List En} {p : En → Bool} {e : En}
theorem en_n (hA : AOk A) (he : e ∈ A) : e.t.d = (e.n : Int) ∧ e.n < 18446744073709551616 := by
  have := hA.d e he
  unfold En.n
  omega
theorem MemW.slc {X : World} {ma mf : Nat} {v : Nat → Value} {sl : Nat → List En} (h : MemW X g ma mf v sl t L A p) {q : Nat} (hq : q < 64) : ∃ Av cv, v q = .slice Av (sl q).length cv := by
  rcases (h.row q hq).2 with ⟨h1, h2⟩ | ⟨gv, cap, cur, h1, _⟩
  · exact ⟨none, 0, by rw [h1, h2]⟩
  · exact ⟨_, _, h1⟩
set_option maxHeartbeats 4000000 in
theorem put_any (h : Sp.Sep W w items) (hk : items[k]? = some (wI g t L A p)) (hA : AOk A) (ht : t < 18446744073709551616) (he : e ∈ A) (hp : p e = false) :
    Calls Try.prog 31 #[.pointer (some ⟨g, 0, none⟩), .pointer (some ⟨e.b, 0, none⟩)] w fun x w' => x = .returned (.tuple #[]) ∧ Sp.Sep W w' (items.set k (wI g t L A (fun x => p x || x.b == e.b))) := by
  obtain ⟨hd, hn⟩ := en_n hA he
  have I : Sp.Sep W { w with drawn := w.drawn + 1 } items := h.drew
  have hne : Nonempty (In (fun X => Sp.Sep W X items)) := ⟨⟨_, I⟩⟩
  have f0 : ∀ jj : In (fun X => Sp.Sep W X items), jj.W.cell? ⟨g, 0, none⟩ = some (.int .u64 (t : Int)) := fun jj => by
    obtain ⟨ma, mf, v, sl, hM⟩ := wI_at jj.h hk
    exact (hM.blk.cell 0).trans (wh0 _ _ _ _)
  have f1 : ∀ jj : In (fun X => Sp.Sep W X items), jj.W.cell? ⟨e.b, 1, none⟩ = some (.int .u64 (e.n : Int)) := fun jj => by
    obtain ⟨ma, mf, v, sl, hM⟩ := wI_at jj.h hk
    obtain ⟨z, _, hz⟩ := hM.ent e he
    exact (hz.cell 1).trans (by rw [← hd]; rfl)
  have HPL := Lib.hid (fun W' => place_any t e.n W' ht hn)
  have HK := Lib.hid hk
  have HA := Lib.hid hA
  have HE := Lib.hid he
  have HP := Lib.hid hp
  clear h hk hA he hp hn hd ht
  by_cases hfar : ix t e.n = 64
  · have hpl : place t e.n = (4, 0) := place_far (ix_far.1 hfar)
    rw [hpl] at HPL
    have HX := Lib.hid hfar
    clear hfar hpl
    go_enter Try.func31, Try.ntmps31
    go_wp2_with fail
    refine region_class (fun X => Sp.Sep W X items) (by kernel_rfl) (by kernel_rfl) I ?_
    repeat (go_big_quiet_step (first
      | (go_at_call 13; with_reducible exact class_call _ (fun hi => (HPL.out _).mono fun x w' ⟨he, hb⟩ => ⟨he, hb ▸ hi⟩))))
    refine wpQuiet_nil ?_
    rintro _ ⟨jj, rfl⟩
    have SX := Lib.hid jj.h
    clear I hne f0 f1
    generalize jj.W = X at *
    clear jj
    obtain ⟨ma, mf, v, sl, hM, put⟩ := wI_take SX.out.drew HK.out
    have PUT := Lib.hid put
    clear put
    obtain ⟨z, _, hz⟩ := hM.ent e HE.out
    have x1 : X.drew.cell? ⟨g, 66, none⟩ = some (.map (some mf)) := (hM.blk.cell _).trans (wh66 _ _ _ _)
    have y0 : X.drew.cell? ⟨e.b, 0, none⟩ = some (.string e.t.i) := hz.cell 0
    obtain ⟨w2, hrun, hM2, ho⟩ := hM.farput HA.out HE.out HP.out HX.out
    change (Instr.mapUpdate 61 (.map (some mf)) (.string e.t.i) (.pointer (some ⟨e.b, 0, none⟩))).run Try.prog X.drew = .ok () w2 at hrun
    have HM := Lib.hid hM2
    have HO := Lib.hid ho
    clear hM hM2 ho hz
    go_wp2_with fail
    go_region
    all_goals (try go_wp2_with fail)
    refine bodyPost_ret (results_none rfl _ _ _) rfl ?_
    exact ⟨rfl, PUT.out _ _ _ _ _ _ _ HM.out HO.out fun b hb => .inl hb⟩
  · have hlt : ix t e.n < 64 := by have := ix_le t e.n; omega
    obtain ⟨e1, e2, e3⟩ := ix_near hlt
    have hpl : place t e.n = (ix t e.n / 16, ix t e.n % 16) := by rw [← e1, ← e2]
    rw [hpl] at HPL
    obtain ⟨q, hq⟩ : ∃ q, ix t e.n = q := ⟨_, rfl⟩
    rw [hq] at HPL hlt
    have HX := Lib.hid hq
    obtain ⟨l, hl⟩ : ∃ l, q / 16 = l := ⟨_, rfl⟩
    obtain ⟨s, hs⟩ : ∃ s, q % 16 = s := ⟨_, rfl⟩
    rw [hl, hs] at HPL
    have hqq : 2 + l * 16 + s = 2 + q := by omega
    have l4 : (l : Int) < 4 := by omega
    have s16 : (s : Int) < 16 := by omega
    have l4' : ¬ ((l : Int) = 4) := by omega
    have HQ := Lib.hid hlt
    have HQQ := Lib.hid hqq
    clear hq hpl hlt hqq hl hs hfar e1 e2 e3
    go_enter Try.func31, Try.ntmps31
    go_wp2_with fail
    refine region_class (fun X => Sp.Sep W X items) (by kernel_rfl) (by kernel_rfl) I ?_
    repeat (go_big_quiet_step (first
      | (go_at_call 13; with_reducible exact class_call _ (fun hi => (HPL.out _).mono fun x w' ⟨he, hb⟩ => ⟨he, hb ▸ hi⟩))))
    refine wpQuiet_nil ?_
    rintro _ ⟨jj, rfl⟩
    have SX := Lib.hid jj.h
    clear I hne f0 f1
    generalize jj.W = X at *
    clear jj
    obtain ⟨ma, mf, v, sl, hM, put⟩ := wI_take SX.out HK.out
    have PUT := Lib.hid put
    clear put
    obtain ⟨z, _, hz⟩ := hM.ent e HE.out
    obtain ⟨Av, cv, hv⟩ := hM.slc HQ.out
    have x1 : X.cell? ⟨g, 2 + l * 16 + s, none⟩ = some (.slice Av (sl q).length cv) := by rw [← hv]; rw [HQQ.out]; exact (hM.blk.cell _).trans (whk _ _ _ _ HQ.out)
    have y1 : X.cell? ⟨e.b, 2, none⟩ = some (.int .i64 (z : Int)) := hz.cell 2
    have y2 : X.frozen? ⟨e.b, 2, none⟩ = false := hz.frozen 2
    have hnl := hM.len HA.out.n HQ.out
    obtain ⟨hM2, ho2, hB2⟩ := hM.mark HA.out HE.out HP.out (sl q).length (by omega)
    have eset : X.setCell ⟨e.b, 2, none⟩ (.int .i64 ((sl q).length : Nat)) = X.setRow e.b (enC e (sl q).length) := set_row hz 2 _
    go_upto_region 4 with fail
    try rw [eset]
    have HM2 := Lib.hid hM2
    have HB2 := Lib.hid hB2
    clear eset x1 y1 y2 hz hM hM2 hB2
    generalize X.setRow e.b (enC e (sl q).length) = X2 at *
    have hM3 : MemW X2.drew g ma mf v sl t L A p := HM2.out.same (fun _ _ => rfl)
    obtain ⟨v', W5, hrun, hB5, hM5, ho5, hf5⟩ := hM3.push HA.out HE.out HP.out HQ.out HX.out HB2.out
    rw [hv] at hrun
    obtain ⟨Aw, cw, hv'⟩ := hM5.slc HQ.out
    rw [upd_at, upd_at] at hv'
    subst hv'
    have r1 : X2.drew.cell? ⟨g, 2 + l * 16 + s, none⟩ = some (.slice Av (sl q).length cv) := by rw [← hv, HQQ.out]; exact (hM3.blk.cell _).trans (whk _ _ _ _ HQ.out)
    have r2 : (X2.drew.alloc (.cells #[.pointer (some ⟨e.b, 0, none⟩)] 75)).cell? ⟨g, 2 + l * 16 + s, none⟩ = some (.slice Av (sl q).length cv) := (World.cell?_of_block (w := X2.drew) (Below.heap_alloc _ _ _ hM3.blk.lt)).trans r1
    have r5 : X2.cell? ⟨g, 2 + l * 16 + s, none⟩ = some (.slice Av (sl q).length cv) := r1
    have r6 : (X2.alloc (.cells #[.pointer (some ⟨e.b, 0, none⟩)] 75)).cell? ⟨g, 2 + l * 16 + s, none⟩ = some (.slice Av (sl q).length cv) := r2
    have r3 : W5.cell? ⟨g, 2 + l * 16 + s, none⟩ = some (.slice Av (sl q).length cv) := by rw [← hv, HQQ.out]; exact (hB5.cell _).trans (whk _ _ _ _ HQ.out)
    have r4 : W5.frozen? ⟨g, 2 + l * 16 + s, none⟩ = false := hB5.frozen _
    have HS5 : Hid (W5.setCell ⟨g, 2 + l * 16 + s, none⟩ (.slice Aw (sl q ++ [e]).length cw) = W5.setRow g (whC t ma mf (upd v q (.slice Aw (sl q ++ [e]).length cw)))) := Lib.hid (by rw [HQQ.out, set_row hB5, wh_set _ _ _ _ HQ.out])
    have HM5 := Lib.hid hM5
    have HO5 := Lib.hid ho5
    have HF5 := Lib.hid hf5
    have HO2 := Lib.hid ho2
    clear hM3 hM5 hB5 ho5 hf5 ho2
    go_region_law (refine step_push rfl (.tmp 53) (.tmp 55) rfl rfl (.slice Av (sl q).length cv) (.slice (some ⟨X2.drew.heap.size, 0, none⟩) 1 1) (by simp [Act.eval]) (by simp [Act.eval]) hrun ?_)
    all_goals (try go_wp2_with fail)
    all_goals (
      go_end0
      refine ⟨rfl, ?_⟩
      rw [show (sl q).length + 1 = (sl q ++ [e]).length by simp, HS5.out]
      exact PUT.out _ _ _ _ _ _ _ HM5.out (HO2.out.drew.trans HO5.out fun b hb => .inl hb) (fun b hb => (HF5.out b hb).imp id (fun h9 => Nat.le_trans HO2.out.size h9)))
end
end Go.Proofs.Ytogfpakopckfoaa.Wl
