/- The document's Right. -/
import Derived.Test.YtfhdckmpodmejaaSwA
namespace Go.Proofs.Ytfhdckmpodmejaa.Sw
open Go.ChangeShapes Go.WideShapes Go.ChangeAt Go.RowKit Go.Lib Go.Joins Go.Deep
open Sp Rw
set_option linter.unusedVariables false
set_option maxRecDepth 100000

theorem todo_snoc {l : List Int} {x v : Int} : TodoOk (l ++ [x]) v ↔ TodoOk l v ∧ (0 ≤ x ∧ x ≤ 15 ∧ x ≠ v) ∧ x ∉ l := by
  unfold TodoOk
  rw [List.nodup_append]
  constructor
  · rintro ⟨h1, h2, _, h3⟩
    exact ⟨⟨fun y hy => h1 y (List.mem_append_left _ hy), h2⟩, h1 x (List.mem_append_right _ (List.mem_singleton.2 rfl)), fun hx => h3 x hx x (List.mem_singleton.2 rfl) rfl⟩
  · rintro ⟨⟨h1, h2⟩, h3, h4⟩
    refine ⟨fun y hy => ?_, h2, by simp, fun a ha b hb => ?_⟩
    · rcases List.mem_append.1 hy with h | h
      · exact h1 y h
      · rw [List.mem_singleton.1 h]; exact h3
    · rw [List.mem_singleton.1 hb]
      rintro rfl
      exact h4 ha
theorem todo_take {t : List Int} {v : Int} (h : TodoOk t v) (i : Nat) : TodoOk (t.take i) v := ⟨fun x hx => h.1 x (List.mem_of_mem_take hx), h.2.sublist (List.take_sublist _ _)⟩
theorem todo_at {t : List Int} {v : Int} (h : TodoOk t v) {i : Nat} {x : Int} (hx : t[i]? = some x) : TodoOk (t.take i) v ∧ (0 ≤ x ∧ x ≤ 15 ∧ x ≠ v) ∧ x ∉ t.take i := by
  have := todo_take h (i + 1)
  rw [take_one hx] at this
  exact todo_snoc.1 this
theorem todo_nil (v : Int) : TodoOk [] v := ⟨by simp, List.nodup_nil⟩
theorem st_cells {W : World} {b : Nat} {T : TypeId} {s : St} {A : Option Addr} {p : Nat} (h : Sp.Blk W b T (sc s A p)) : W.cell? ⟨b, 0, none⟩ = some (.slice A s.t.length p) ∧ W.cell? ⟨b, 1, none⟩ = some (.int .i64 s.v) ∧ W.cell? ⟨b, 2, none⟩ = some (.int .i64 s.c) ∧ W.cell? ⟨b, 3, none⟩ = some (.int .i64 s.n) := ⟨h.cell 0, h.cell 1, h.cell 2, h.cell 3⟩
set_option maxHeartbeats 4000000 in
theorem rright_any (s : St) (A : Option Addr) (p : Nat) (w : World) (hA : VR w A s.t.length (iv s.t)) (hn : s.t.length ≤ 1000) (hp : s.t.length ≤ p) :
    Calls Try.prog 20 #[.agg (sc s A p)] w fun e w' => e = .returned (.bool (decide (Right s))) ∧ Below w.heap.size w w' := by
  obtain ⟨b0, hb0⟩ : ∃ b0, w.heap.size = b0 := ⟨_, rfl⟩
  obtain ⟨W, hW⟩ : ∃ W, w.alloc (.cells (sc s A p) 27) = W := ⟨_, rfl⟩
  have HB := Lib.hid (show Below w.heap.size w W by rw [← hW]; exact below1 _ _)
  have BS : Hid (Sp.Blk W b0 27 (sc s A p)) := Lib.hid (by rw [← hW, ← hb0]; exact Sp.Blk.new _ _ _)
  have HV := Lib.hid (hA.later HB.out)
  have HN := Lib.hid hn
  have hmp : ((s.t.length : Int) ≤ (p : Int)) := by omega
  obtain ⟨t, v, c, n⟩ := s
  simp only at BS HV HN hmp
  obtain ⟨m, hm⟩ : ∃ m, t.length = m := ⟨_, rfl⟩
  have HM := Lib.hid hm
  rw [hm] at HV HN hmp
  have BS' : Hid (Sp.Blk W b0 27 #[.slice A m p, .int .i64 v, .int .i64 c, .int .i64 n]) := Lib.hid (by rw [← hm]; exact BS.out)
  clear BS hA hn hp
  have HZ : Hid (w.heap.size = b0) := Lib.hid hb0
  go_enter Try.func20, Try.ntmps20
  go_upto_region 2 with fail
  clear hb0 hW
  go_loopg [3] m (fun gk s3 wr => ∃ i : Nat, i ≤ m ∧ gk = m - i ∧ s3 = .int .i64 (i : Nat) ∧ Hid (Below W.heap.size W wr) ∧ Hid (TodoOk (t.take i) v))
  case atStart => exact ⟨0, by omega, rfl, rfl, Lib.hid (Below.refl _ _), Lib.hid (by rw [List.take_zero]; exact todo_nil v)⟩
  case round =>
    obtain ⟨i, hi, hgk, rfl, HW, HT⟩ := hrel
    have HG := Lib.hid hgk
    clear hgk
    have s0 : wr.cell? ⟨b0, 0, none⟩ = some (.slice A m p) := (BS'.out.later HW.out).cell 0
    have s1 : wr.cell? ⟨b0, 1, none⟩ = some (.int .i64 v) := (BS'.out.later HW.out).cell 1
    have s2 : wr.cell? ⟨b0, 2, none⟩ = some (.int .i64 c) := (BS'.out.later HW.out).cell 2
    have s3 : wr.cell? ⟨b0, 3, none⟩ = some (.int .i64 n) := (BS'.out.later HW.out).cell 3
    have HWW := Lib.hid (HB.out.trans (HW.out.mono HB.out.size))
    by_cases hlt : i < m
    · have hl1 : (i : Int) < (m : Int) := by omega
      have hl2 : (i : Int) ≤ (p : Int) := by omega
      have hl3 : (0 : Int) ≤ (i : Int) := by omega
      have wi : IntKind.i64.wrap ((i : Int) + 1) = (i : Int) + 1 := IntWalk.i64_in _ (by have := HN.out; omega)
      have hI : ∀ jj : In (fun X => Below wr.heap.size wr X), Below W.heap.size W jj.W := fun jj => HW.out.trans (jj.h.mono HW.out.size)
      obtain ⟨g, o, rfl, hc⟩ := HV.out.c (by omega)
      obtain ⟨y, hy⟩ : ∃ y, t[i]? = some y := ⟨_, List.getElem?_eq_getElem (by have := HM.out; omega)⟩
      have c1 := hc i _ (iv_at hy)
      have j0 : ∀ jj : In (fun X => Below wr.heap.size wr X), jj.W.cell? ⟨b0, 0, none⟩ = some (.slice (some ⟨g, o, none⟩) m p) := fun jj => (BS'.out.later (hI jj)).cell 0
      have j1 : ∀ jj : In (fun X => Below wr.heap.size wr X), jj.W.cell? ⟨b0, 1, none⟩ = some (.int .i64 v) := fun jj => (BS'.out.later (hI jj)).cell 1
      have j2 : ∀ jj : In (fun X => Below wr.heap.size wr X), jj.W.cell? ⟨g, o + i, none⟩ = some (.int .i64 y) := fun jj => ((hI jj).cell (World.block_lt_of_cell? _ _ c1)).trans c1
      have HY := Lib.hid hy
      have HVR : Hid (∀ X, Below W.heap.size W X → VR X (some ⟨g, o, none⟩) i (iv (t.take i))) := Lib.hid (fun X hX => by have := (HV.out.later hX).cut i (by omega); rwa [iv_take] at this)
      have CI : Hid (∀ X, Below W.heap.size W X → Calls Try.prog 35 #[.slice (some ⟨g, o, none⟩) i p, .int .i64 y] X fun e w' => e = .returned (.bool (decide (y ∈ t.take i))) ∧ Below X.heap.size X w') := Lib.hid (fun X hX => rin_any _ i p _ y X (HVR.out X hX) (by have := HN.out; omega))
      clear hc c1 hy HVR
      by_cases k1 : y < 0
      · have d1 : decide (y < 0) = true := by simp; omega
        go_upto_region 4 with fail
        have I : Below wr.heap.size wr { wr with drawn := wr.drawn + 1 } := (Below.refl _ _).drew
        have hne : Nonempty (In (fun X => Below wr.heap.size wr X)) := ⟨⟨_, I⟩⟩
        refine region_class (fun X => Below wr.heap.size wr X) (by kernel_rfl) (by kernel_rfl) I ?_
        repeat (go_big_quiet_step (first
          | (go_at_call 35; with_reducible exact class_call _ (fun hi => (CI.out _ (HW.out.trans (hi.mono HW.out.size))).mono fun _ _ ⟨he, hb⟩ => ⟨he, hi.trans (hb.mono hi.size)⟩))))
        refine wpQuiet_nil ?_
        rintro _ ⟨jj, rfl⟩
        have H2 := Lib.hid (hI jj)
        clear I hne hI j0 j1 j2 s0 s1 s2 s3
        generalize jj.W = X at *
        clear jj
        go_wp2_with fail
        go_ret
        exact ⟨ret_bool (Eq.symm (decide_eq_false fun h => absurd (todo_at h.t HY.out).2.1.1 (by omega))), HB.out.trans (H2.out.mono HB.out.size)⟩
      · have d1 : decide (y < 0) = false := by simp; omega
        by_cases k2 : 15 < y
        · have d2 : decide (15 < y) = true := by simp; omega
          go_upto_region 4 with fail
          have I : Below wr.heap.size wr { wr with drawn := wr.drawn + 1 } := (Below.refl _ _).drew
          have hne : Nonempty (In (fun X => Below wr.heap.size wr X)) := ⟨⟨_, I⟩⟩
          refine region_class (fun X => Below wr.heap.size wr X) (by kernel_rfl) (by kernel_rfl) I ?_
          repeat (go_big_quiet_step (first
            | (go_at_call 35; with_reducible exact class_call _ (fun hi => (CI.out _ (HW.out.trans (hi.mono HW.out.size))).mono fun _ _ ⟨he, hb⟩ => ⟨he, hi.trans (hb.mono hi.size)⟩))))
          refine wpQuiet_nil ?_
          rintro _ ⟨jj, rfl⟩
          have H2 := Lib.hid (hI jj)
          clear I hne hI j0 j1 j2 s0 s1 s2 s3
          generalize jj.W = X at *
          clear jj
          go_wp2_with fail
          go_ret
          exact ⟨ret_bool (Eq.symm (decide_eq_false fun h => absurd (todo_at h.t HY.out).2.1.2.1 (by omega))), HB.out.trans (H2.out.mono HB.out.size)⟩
        · have d2 : decide (15 < y) = false := by simp; omega
          by_cases k3 : y = v
          · subst k3
            have d3 : (y == y) = true := by simp
            go_upto_region 4 with fail
            have I : Below wr.heap.size wr { wr with drawn := wr.drawn + 1 } := (Below.refl _ _).drew
            have hne : Nonempty (In (fun X => Below wr.heap.size wr X)) := ⟨⟨_, I⟩⟩
            refine region_class (fun X => Below wr.heap.size wr X) (by kernel_rfl) (by kernel_rfl) I ?_
            repeat (go_big_quiet_step (first
              | (go_at_call 35; with_reducible exact class_call _ (fun hi => (CI.out _ (HW.out.trans (hi.mono HW.out.size))).mono fun _ _ ⟨he, hb⟩ => ⟨he, hi.trans (hb.mono hi.size)⟩))))
            refine wpQuiet_nil ?_
            rintro _ ⟨jj, rfl⟩
            have H2 := Lib.hid (hI jj)
            clear I hne hI j0 j1 j2 s0 s1 s2 s3
            generalize jj.W = X at *
            clear jj
            go_wp2_with fail
            go_ret
            exact ⟨ret_bool (Eq.symm (decide_eq_false fun h => absurd rfl (todo_at h.t HY.out).2.1.2.2)), HB.out.trans (H2.out.mono HB.out.size)⟩
          · have d3 : (y == v) = false := by simp; omega
            by_cases k4 : y ∈ t.take i
            · have d4 : decide (y ∈ t.take i) = true := decide_eq_true k4
              rw [d4] at CI
              have HK := Lib.hid k4
              clear k4 d4
              go_upto_region 4 with fail
              have I : Below wr.heap.size wr { wr with drawn := wr.drawn + 1 } := (Below.refl _ _).drew
              have hne : Nonempty (In (fun X => Below wr.heap.size wr X)) := ⟨⟨_, I⟩⟩
              refine region_class (fun X => Below wr.heap.size wr X) (by kernel_rfl) (by kernel_rfl) I ?_
              repeat (go_big_quiet_step (first
                | (go_at_call 35; with_reducible exact class_call _ (fun hi => (CI.out _ (HW.out.trans (hi.mono HW.out.size))).mono fun _ _ ⟨he, hb⟩ => ⟨he, hi.trans (hb.mono hi.size)⟩))))
              refine wpQuiet_nil ?_
              rintro _ ⟨jj, rfl⟩
              have H2 := Lib.hid (hI jj)
              clear I hne hI j0 j1 j2 s0 s1 s2 s3
              generalize jj.W = X at *
              clear jj
              go_wp2_with fail
              go_ret
              exact ⟨ret_bool (Eq.symm (decide_eq_false fun h => absurd HK.out (todo_at h.t HY.out).2.2)), HB.out.trans (H2.out.mono HB.out.size)⟩
            · have d4 : decide (y ∈ t.take i) = false := decide_eq_false k4
              rw [d4] at CI
              have HT2 : Hid (TodoOk (t.take (i + 1)) v) := Lib.hid (by rw [take_one HY.out]; exact todo_snoc.2 ⟨HT.out, ⟨by omega, by omega, k3⟩, k4⟩)
              clear k4 d4
              go_upto_region 4 with fail
              have I : Below wr.heap.size wr { wr with drawn := wr.drawn + 1 } := (Below.refl _ _).drew
              have hne : Nonempty (In (fun X => Below wr.heap.size wr X)) := ⟨⟨_, I⟩⟩
              refine region_class (fun X => Below wr.heap.size wr X) (by kernel_rfl) (by kernel_rfl) I ?_
              repeat (go_big_quiet_step (first
                | (go_at_call 35; with_reducible exact class_call _ (fun hi => (CI.out _ (HW.out.trans (hi.mono HW.out.size))).mono fun _ _ ⟨he, hb⟩ => ⟨he, hi.trans (hb.mono hi.size)⟩))))
              refine wpQuiet_nil ?_
              rintro _ ⟨jj, rfl⟩
              have H2 := Lib.hid (hI jj)
              clear I hne hI j0 j1 j2 s0 s1 s2 s3
              generalize jj.W = X at *
              clear jj
              go_wp2_with fail
              go_roundg (m - (i + 1))
              case measure => have := HG.out; omega
              case rel => exact ⟨i + 1, by omega, by have := HG.out; omega, by go_num, H2, HT2⟩
    · obtain rfl : i = m := by omega
      have hl1 : ¬ (i : Int) < (i : Int) := by omega
      have HTT : Hid (TodoOk t v) := Lib.hid (by have := HT.out; rwa [List.take_of_length_le (by have := HM.out; omega)] at this)
      clear HT
      by_cases hv : v = -1
      · subst hv
        by_cases e0 : c = 0
        case neg =>
          have f0 : (c == 0) = false := by simp; omega
          go_wp2_with fail
          go_ret
          exact ⟨ret_bool (Eq.symm (decide_eq_false fun h => by have := h.v; unfold VicOk at this; simp only at this; omega)), HWW.out⟩
        have f0 : (c == 0) = true := by simp; omega
        by_cases e1 : n = 0
        case neg =>
          have f1 : (n == 0) = false := by simp; omega
          go_wp2_with fail
          go_ret
          exact ⟨ret_bool (Eq.symm (decide_eq_false fun h => by have := h.v; unfold VicOk at this; simp only at this; omega)), HWW.out⟩
        have f1 : (n == 0) = true := by simp; omega
        go_wp2_with fail
        go_ret
        exact ⟨ret_bool (Eq.symm (decide_eq_true ⟨HTT.out, .inl ⟨rfl, rfl, rfl⟩⟩)), HWW.out⟩
      · have dv : (v == -1) = false := by simp; exact hv
        by_cases e0 : 0 ≤ v
        case neg =>
          have f0 : decide (0 ≤ v) = false := by simp; omega
          go_wp2_with fail
          go_ret
          exact ⟨ret_bool (Eq.symm (decide_eq_false fun h => by have := h.v; unfold VicOk at this; simp only at this; omega)), HWW.out⟩
        have f0 : decide (0 ≤ v) = true := by simp; omega
        by_cases e1 : v ≤ 15
        case neg =>
          have f1 : decide (v ≤ 15) = false := by simp; omega
          go_wp2_with fail
          go_ret
          exact ⟨ret_bool (Eq.symm (decide_eq_false fun h => by have := h.v; unfold VicOk at this; simp only at this; omega)), HWW.out⟩
        have f1 : decide (v ≤ 15) = true := by simp; omega
        by_cases e2 : 0 ≤ n
        case neg =>
          have f2 : decide (0 ≤ n) = false := by simp; omega
          go_wp2_with fail
          go_ret
          exact ⟨ret_bool (Eq.symm (decide_eq_false fun h => by have := h.v; unfold VicOk at this; simp only at this; omega)), HWW.out⟩
        have f2 : decide (0 ≤ n) = true := by simp; omega
        by_cases e3 : n ≤ 30
        case neg =>
          have f3 : decide (n ≤ 30) = false := by simp; omega
          go_wp2_with fail
          go_ret
          exact ⟨ret_bool (Eq.symm (decide_eq_false fun h => by have := h.v; unfold VicOk at this; simp only at this; omega)), HWW.out⟩
        have f3 : decide (n ≤ 30) = true := by simp; omega
        by_cases e4 : 0 ≤ c
        case neg =>
          have f4 : decide (0 ≤ c) = false := by simp; omega
          go_wp2_with fail
          go_ret
          exact ⟨ret_bool (Eq.symm (decide_eq_false fun h => by have := h.v; unfold VicOk at this; simp only at this; omega)), HWW.out⟩
        have f4 : decide (0 ≤ c) = true := by simp; omega
        by_cases e5 : c ≤ n
        case neg =>
          have f5 : decide (c ≤ n) = false := by simp; omega
          go_wp2_with fail
          go_ret
          exact ⟨ret_bool (Eq.symm (decide_eq_false fun h => by have := h.v; unfold VicOk at this; simp only at this; omega)), HWW.out⟩
        have f5 : decide (c ≤ n) = true := by simp; omega
        go_wp2_with fail
        go_ret
        exact ⟨ret_bool (Eq.symm (decide_eq_true ⟨HTT.out, by unfold VicOk; simp only; omega⟩)), HWW.out⟩
end Go.Proofs.Ytfhdckmpodmejaa.Sw
