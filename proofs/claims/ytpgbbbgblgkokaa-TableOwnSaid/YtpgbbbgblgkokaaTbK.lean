/- Contract of table's Count: one record more, or that the open segment is full; no memory that was there is changed. -/
import Derived.Test.YtpgbbbgblgkokaaTbJ
import Derived.Deep.AppendLies
namespace Go.Proofs.Ytpgbbbgblgkokaa
open Go.RowKit Go.Lib
set_option linter.unusedVariables false

theorem iv_set (κ : IntKind) (l : List Int) (i : Nat) (x : Int) : (iv κ l).set i (.int κ x) = iv κ (l.set i x) := by unfold iv; rw [List.map_set]
theorem Rows3.put {W : World} {base : Nat} {A : Option Addr} {m p g k q : Nat} {C : Option Addr} {n r : Nat} {o l f : List Int} (h : Rows3 base A m p (some ⟨g, 0, none⟩) k q C n r o l f W) (i : Nat) (x : Int) :
    Rows3 base A m p (some ⟨g, 0, none⟩) k q C n r o (l.set i x) f (W.setCell ⟨g, i, none⟩ (.int .i64 x)) := by
  have gs := grown_set W g i (.int .i64 x)
  refine ⟨?_, ?_, ?_, h.ab⟩
  · refine h.a.kept gs ?_
    rw [ob_eq]
    cases hq : ob A with
    | none => exact .inl rfl
    | some j => exact .inr (fun e => h.ab j hq e.symm)
  · have := (h.b.stored i (.int .i64 x)).1
    rw [iv_set] at this
    exact this
  · refine h.c.kept gs ?_
    cases hq : (Value.slice C n r).ownBlock with
    | none => exact .inl rfl
    | some j => exact .inr (fun e => own_ne h.b h.c (by decide) j (by rw [ob_eq]; exact e.symm) hq)
theorem own_some {W : World} {base : Nat} {e : TypeId} {A : Option Addr} {m p : Nat} {xs : List Value} (h : W.ownsRow base e 1 (.slice A m p) m xs) (hm : 0 < m) : ∃ g, A = some ⟨g, 0, none⟩ ∧ base ≤ g ∧ g < W.heap.size := by
  obtain ⟨g, cap, hv, h1, h2⟩ := h.form hm
  injection hv with hv
  exact ⟨g, hv, h1, h2⟩

set_option maxHeartbeats 8000000 in
theorem count_any (sg st : Int) (A : Option Addr) (m p : Nat) (B : Option Addr) (k q : Nat) (C : Option Addr) (n r : Nat) (o l f : List Int) (w : World) (h : TIn w A m B k C n o l f) (hok : okP ⟨sg, st, o, l, f⟩) :
    Calls Try.prog 29 #[.agg #[.int .i64 sg, .int .i64 st, .slice A m p, .slice B k q, .slice C n r]] w (ResP (tabOf (countT ⟨sg, st, o, l, f⟩)) (errOf (countT ⟨sg, st, o, l, f⟩) 10) w) := by
  obtain ⟨⟨hfa, hfb, hfc⟩, hm, hk, hn, hml, hkl, hnl⟩ := ok_full hok h
  subst hk
  have hn2 : n ≤ 1000 := by omega
  clear hn
  have hk2 : k ≤ 1000 := by omega
  have hsl : k = l.length := h.b.len
  have hlast := hok.2.2.2.2.2.1 _ (last_mem (l := l) (by omega))
  simp only at hlast
  have h2 := hok.2.1
  simp only at h2
  obtain ⟨bb, off, rfl, hbb, hc⟩ := last_cell h.b (by omega)
  obtain ⟨z, HZ⟩ : ∃ z, Hid (lastN l = z) := ⟨_, Lib.hid rfl⟩
  rw [HZ.out] at hlast hc
  obtain ⟨i, Hi⟩ : ∃ i, Hid (k - 1 = i) := ⟨_, Lib.hid rfl⟩
  rw [Hi.out] at hc
  have hik : i < k := by have := Hi.out; omega
  have hiki : (i : Int) < (k : Int) := by omega
  have B0 : Below w.heap.size w ((w.alloc (.cells #[.int .i64 sg, .int .i64 st, .slice A k p, .slice (some ⟨bb, off, none⟩) k q, .slice C n r] 28)).alloc (.cells #[.int .i64 0, .int .i64 0, .slice none 0 0, .slice none 0 0, .slice none 0 0] 28)) := Ge.trans (below1 _ _) (below1 _ _)
  have K0 : Blk ((w.alloc (.cells #[.int .i64 sg, .int .i64 st, .slice A k p, .slice (some ⟨bb, off, none⟩) k q, .slice C n r] 28)).alloc (.cells #[.int .i64 0, .int .i64 0, .slice none 0 0, .slice none 0 0, .slice none 0 0] 28)) w.heap.size 28 (csT sg st A k p (some ⟨bb, off, none⟩) k q C n r) := (Blk.new w _ _).later (below1 _ _)
  have Z0 : Blk ((w.alloc (.cells #[.int .i64 sg, .int .i64 st, .slice A k p, .slice (some ⟨bb, off, none⟩) k q, .slice C n r] 28)).alloc (.cells #[.int .i64 0, .int .i64 0, .slice none 0 0, .slice none 0 0, .slice none 0 0] 28)) (w.heap.size + 1) 28 (csT 0 0 none 0 0 none 0 0 none 0 0) := Blk.at_ _ _ _ (by simp)
  have hv := Try.zeroValue28
  have I : Its w [(w.heap.size, 28, csT sg st A k p (some ⟨bb, off, none⟩) k q C n r), (w.heap.size + 1, 28, csT 0 0 none 0 0 none 0 0 none 0 0)] [] ((w.alloc (.cells #[.int .i64 sg, .int .i64 st, .slice A k p, .slice (some ⟨bb, off, none⟩) k q, .slice C n r] 28)).alloc (.cells #[.int .i64 0, .int .i64 0, .slice none 0 0, .slice none 0 0, .slice none 0 0] 28)) := ((Its.nil B0).cons Z0).cons K0
  have hne : Nonempty (In (Its w [(w.heap.size, 28, csT sg st A k p (some ⟨bb, off, none⟩) k q C n r), (w.heap.size + 1, 28, csT 0 0 none 0 0 none 0 0 none 0 0)] [])) := ⟨⟨_, I⟩⟩
  have f0 : ∀ j : In (Its w [(w.heap.size, 28, csT sg st A k p (some ⟨bb, off, none⟩) k q C n r), (w.heap.size + 1, 28, csT 0 0 none 0 0 none 0 0 none 0 0)] []), j.W.cell? ⟨w.heap.size, 0, none⟩ = some (.int .i64 sg) := fun j => (j.h.at_ 0 rfl).cell 0
  have f1 : ∀ j : In (Its w [(w.heap.size, 28, csT sg st A k p (some ⟨bb, off, none⟩) k q C n r), (w.heap.size + 1, 28, csT 0 0 none 0 0 none 0 0 none 0 0)] []), j.W.cell? ⟨w.heap.size, 1, none⟩ = some (.int .i64 st) := fun j => (j.h.at_ 0 rfl).cell 1
  have f2 : ∀ j : In (Its w [(w.heap.size, 28, csT sg st A k p (some ⟨bb, off, none⟩) k q C n r), (w.heap.size + 1, 28, csT 0 0 none 0 0 none 0 0 none 0 0)] []), j.W.cell? ⟨w.heap.size, 2, none⟩ = some (.slice A k p) := fun j => (j.h.at_ 0 rfl).cell 2
  have f3 : ∀ j : In (Its w [(w.heap.size, 28, csT sg st A k p (some ⟨bb, off, none⟩) k q C n r), (w.heap.size + 1, 28, csT 0 0 none 0 0 none 0 0 none 0 0)] []), j.W.cell? ⟨w.heap.size, 3, none⟩ = some (.slice (some ⟨bb, off, none⟩) k q) := fun j => (j.h.at_ 0 rfl).cell 3
  have f4 : ∀ j : In (Its w [(w.heap.size, 28, csT sg st A k p (some ⟨bb, off, none⟩) k q C n r), (w.heap.size + 1, 28, csT 0 0 none 0 0 none 0 0 none 0 0)] []), j.W.cell? ⟨w.heap.size, 4, none⟩ = some (.slice C n r) := fun j => (j.h.at_ 0 rfl).cell 4
  have fe : ∀ j : In (Its w [(w.heap.size, 28, csT sg st A k p (some ⟨bb, off, none⟩) k q C n r), (w.heap.size + 1, 28, csT 0 0 none 0 0 none 0 0 none 0 0)] []), j.W.cell? ⟨bb, off + i, none⟩ = some (.int .i64 z) := fun j => ((bcell j.h.b).1 bb (off + i) hbb).trans hc
  have II := Lib.hid I
  have HT := Lib.hid h
  have Q : Hid (∀ W : World, Its w [(w.heap.size, 28, csT sg st A k p (some ⟨bb, off, none⟩) k q C n r), (w.heap.size + 1, 28, csT 0 0 none 0 0 none 0 0 none 0 0)] [] W → Calls Try.prog 43 #[.agg #[.int .i64 sg, .int .i64 st, .slice A k p, .slice (some ⟨bb, off, none⟩) k q, .slice C n r]] W fun e w' => e = .returned (.int .i64 (i : Int)) ∧ Below W.heap.size W w') := Lib.hid (fun W _ => open_is sg st A k p (some ⟨bb, off, none⟩) k q C n r (i : Int) W hml (by have := Hi.out; omega))
  clear I hc h B0 K0 Z0
  by_cases hz : z = st
  · have HR : Hid (countT ⟨sg, st, o, l, f⟩ = none) := Lib.hid (by unfold countT; simp only; rw [HZ.out, if_pos hz])
    rw [HR.out]
    simp only [tabOf, errOf, Option.getD]
    subst hz
    have hqz : (z == z) = true := by simp
    clear hok hlast h2 hsl HR HT HZ
    go_enter Try.func29, Try.ntmps29
    go_wp2_with fail
    refine region_class (Its w [(w.heap.size, 28, csT sg z A k p (some ⟨bb, off, none⟩) k q C n r), (w.heap.size + 1, 28, csT 0 0 none 0 0 none 0 0 none 0 0)] []) (by kernel_rfl) (by kernel_rfl) II.out.drawn ?_
    repeat (go_big_quiet_step ((go_at_call 43; with_reducible exact class_call _ (fun hi => its_ge hi (Q.out _ hi)))))
    refine wpQuiet_nil ?_
    rintro _ ⟨j, rfl⟩
    have Z1 : Hid (Blk j.W (w.heap.size + 1) 28 (csT 0 0 none 0 0 none 0 0 none 0 0)) := Lib.hid (j.h.at_ 1 rfl)
    have B1 := Lib.hid j.h.b
    go_wp2_with (with_reducible refine store_t rfl (.tmp 2) (.tmp 13) rfl (w.heap.size + 1) rfl rfl Z1.out ?_)
    exact bodyPost_ret (res_t2 (y := .int .i64 10) rfl _ _ (w.heap.size + 1) rfl rfl (Z1.out.row _)) rfl (zero_res 10 w _ (below_row B1.out (by omega) _))
  · have HR : Hid (countT ⟨sg, st, o, l, f⟩ = some ⟨sg, st, o, l.set i (z + 1), f⟩) := Lib.hid (by
      unfold countT countedT; simp only; rw [HZ.out, if_neg hz, ← hsl, Hi.out])
    rw [HR.out]
    simp only [tabOf, errOf, Option.getD]
    have hqz : (z == st) = false := by simp [hz]
    have z0 : 0 ≤ z := hlast.1
    have z1 : z ≤ 30 := by omega
    have HN : Hid (nth l i = z) := Lib.hid (by rw [← HZ.out]; unfold lastN; rw [← hsl, Hi.out])
    have SL := Lib.hid hsl
    clear hok hlast h2 hsl HR HZ hz
    go_enter Try.func29, Try.ntmps29
    go_wp2_with fail
    refine region_class (Its w [(w.heap.size, 28, csT sg st A k p (some ⟨bb, off, none⟩) k q C n r), (w.heap.size + 1, 28, csT 0 0 none 0 0 none 0 0 none 0 0)] []) (by kernel_rfl) (by kernel_rfl) II.out.drawn ?_
    repeat (go_big_quiet_step ((go_at_call 43; with_reducible exact class_call _ (fun hi => its_ge hi (Q.out _ hi)))))
    refine wpQuiet_nil ?_
    rintro _ ⟨j, rfl⟩
    have Z1 : Blk j.W (w.heap.size + 1) 28 (csT 0 0 none 0 0 none 0 0 none 0 0) := j.h.at_ 1 rfl
    have K1 : Hid (Blk j.W w.heap.size 28 (csT sg st A k p (some ⟨bb, off, none⟩) k q C n r)) := Lib.hid (j.h.at_ 0 rfl)
    have B1 := j.h.b
    have C1 := Lib.hid (copied_any sg st A k p (some ⟨bb, off, none⟩) k q C n r o l f j.W (HT.out.later B1) hfa hfb hfc hk2 hk2 hn2)
    have sz1 : w.heap.size + 2 ≤ j.W.heap.size := by have := Z1.lt; omega
    clear f0 f1 f2 f3 f4 fe hne II Q HT
    go_wp2_with (with_reducible refine load_t rfl (.tmp 1) rfl w.heap.size rfl K1.out ?_)
    refine C1.out.mono ?_
    rintro e' w2 ⟨A1, p1, B1', q1, D1, r1, rfl, R1, b1⟩
    have K2 := Lib.hid (K1.out.later b1)
    have Z2 := Z1.later b1
    have B2 := Ge.trans B1 b1
    obtain ⟨g1, rfl, hg1, hg2⟩ := own_some R1.b (by omega)
    have R2 := R1.wide sz1
    have hgg : w.heap.size + 2 ≤ g1 := by omega
    clear C1 Z1 B1 b1 R1 K1 sz1 hg1
    go_upto_region 4 with (with_reducible refine store_t rfl (.tmp 1) (.tmp 15) rfl w.heap.size rfl rfl K2.out ?_)
    have K4 : Blk (w2.setRow w.heap.size (csT sg st A1 k p1 (some ⟨g1, 0, none⟩) k q1 D1 n r1)) w.heap.size 28 (csT sg st A1 k p1 (some ⟨g1, 0, none⟩) k q1 D1 n r1) := K2.out.row _
    have Z4 : Blk (w2.setRow w.heap.size (csT sg st A1 k p1 (some ⟨g1, 0, none⟩) k q1 D1 n r1)) (w.heap.size + 1) 28 (csT 0 0 none 0 0 none 0 0 none 0 0) := Z2.far (by omega) _
    have B4 : Below w.heap.size w (w2.setRow w.heap.size (csT sg st A1 k p1 (some ⟨g1, 0, none⟩) k q1 D1 n r1)) := below_row B2 (Nat.le_refl _) _
    have R4 : Rows3 (w.heap.size + 2) A1 k p1 (some ⟨g1, 0, none⟩) k q1 D1 n r1 o l f (w2.setRow w.heap.size (csT sg st A1 k p1 (some ⟨g1, 0, none⟩) k q1 D1 n r1)) := R2.row (by omega)
    have hg4 : g1 < (w2.setRow w.heap.size (csT sg st A1 k p1 (some ⟨g1, 0, none⟩) k q1 D1 n r1)).heap.size := by rw [row_size]; exact hg2
    clear K2 Z2 B2 R2 hg2
    generalize w2.setRow w.heap.size (csT sg st A1 k p1 (some ⟨g1, 0, none⟩) k q1 D1 n r1) = W4 at *
    have ke : W4.cell? ⟨g1, i, none⟩ = some (.int .i64 z) := by
      have := R4.b.cellAt i (by omega)
      rw [iv_at .i64 (by rw [← SL.out]; exact hik), HN.out] at this
      exact this
    have kf : W4.frozen? ⟨g1, i, none⟩ = false := R4.b.frozenAt i
    have k0 : W4.cell? ⟨w.heap.size, 0, none⟩ = some (.int .i64 sg) := K4.cell 0
    have k1 : W4.cell? ⟨w.heap.size, 1, none⟩ = some (.int .i64 st) := K4.cell 1
    have k2 : W4.cell? ⟨w.heap.size, 2, none⟩ = some (.slice A1 k p1) := K4.cell 2
    have k3 : W4.cell? ⟨w.heap.size, 3, none⟩ = some (.slice (some ⟨g1, 0, none⟩) k q1) := K4.cell 3
    have k4 : W4.cell? ⟨w.heap.size, 4, none⟩ = some (.slice D1 n r1) := K4.cell 4
    have HBB := Lib.hid B4
    have HR4 := Lib.hid R4
    have HK4 := Lib.hid K4
    have HZ4 := Lib.hid Z4
    have hwb : w.heap.size < W4.heap.size := K4.lt
    have O1 : Hid (∀ W, Calls Try.prog 43 #[.agg #[.int .i64 sg, .int .i64 st, .slice A1 k p1, .slice (some ⟨g1, 0, none⟩) k q1, .slice D1 n r1]] W fun e w' => e = .returned (.int .i64 (i : Int)) ∧ Below W.heap.size W w') := Lib.hid (fun W => open_is sg st A1 k p1 (some ⟨g1, 0, none⟩) k q1 D1 n r1 (i : Int) W hml (by have := Hi.out; omega))
    clear B4 R4 K4 Z4
    have key : Hid (∀ W W5 : World, W.heap = W4.heap → Below W.heap.size W W5 → W5.cell? ⟨g1, i, none⟩ = some (.int .i64 z) ∧ W5.frozen? ⟨g1, i, none⟩ = false ∧ W5.cell? ⟨w.heap.size, 0, none⟩ = some (.int .i64 sg) ∧ W5.cell? ⟨w.heap.size, 1, none⟩ = some (.int .i64 st) ∧ W5.cell? ⟨w.heap.size, 2, none⟩ = some (.slice A1 k p1) ∧ W5.cell? ⟨w.heap.size, 3, none⟩ = some (.slice (some ⟨g1, 0, none⟩) k q1) ∧ W5.cell? ⟨w.heap.size, 4, none⟩ = some (.slice D1 n r1)) := Lib.hid (fun W W5 hh hb => by
      have e : ∀ b o v, W4.cell? ⟨b, o, none⟩ = some v → b < W4.heap.size → W5.cell? ⟨b, o, none⟩ = some v := fun b o v hv hlt => (hb.cell (p := ⟨b, o, none⟩) (by rw [hh]; exact hlt)).trans ((World.cell?_of_block (w := W4) (w' := W) (by rw [hh])).trans hv)
      exact ⟨e _ _ _ ke hg4, (hb.frozen (p := ⟨g1, i, none⟩) (by rw [hh]; exact hg4)).trans ((World.frozen?_of_block (w := W4) (w' := W) (by rw [hh])).trans kf), e _ _ _ k0 hwb, e _ _ _ k1 hwb, e _ _ _ k2 hwb, e _ _ _ k3 hwb, e _ _ _ k4 hwb⟩)
    go_region_with ((go_at_call 43; refine (O1.out _).mono ?_; rintro e w5 ⟨rfl, hb⟩; obtain ⟨e1, e2, e3, e4, e5, e6, e7⟩ := key.out W4.drew w5 rfl hb; have HB5 := Lib.hid hb; clear hb))
    all_goals
      rw [show IntKind.i64.wrap (z + 1) = z + 1 from IntWalk.i64_in _ (by omega)]
      have b5 := Ge.trans (below_drawn W4) HB5.out
      have R5 := (HR4.out.later b5).put i (z + 1)
      have K5 : Blk (w5.setCell ⟨g1, i, none⟩ (.int .i64 (z + 1))) w.heap.size 28 (csT sg st A1 k p1 (some ⟨g1, 0, none⟩) k q1 D1 n r1) := blk_far (HK4.out.later b5) (by omega)
      have Z5 : Blk (w5.setCell ⟨g1, i, none⟩ (.int .i64 (z + 1))) (w.heap.size + 1) 28 (csT 0 0 none 0 0 none 0 0 none 0 0) := blk_far (HZ4.out.later b5) (by omega)
      have B5 : Below w.heap.size w (w5.setCell ⟨g1, i, none⟩ (.int .i64 (z + 1))) := Below.setCell (p := ⟨g1, i, none⟩) (Ge.trans HBB.out b5) (by show w.heap.size ≤ g1; omega) _
      clear e1 e2 e3 e4 e5 e6 e7 HB5 b5
      generalize w5.setCell ⟨g1, i, none⟩ (.int .i64 (z + 1)) = W6 at *
      have HK6 := Lib.hid K5
      have HZ6 := Lib.hid Z5
      have HB6 := Lib.hid B5
      have HR6 := Lib.hid R5
      clear K5 Z5 B5 R5 key O1 HR4 HK4 HZ4 HBB k0 k1 k2 k3 k4 ke kf
      go_wp2_with (first
        | (with_reducible refine load_t rfl (.tmp 1) rfl w.heap.size rfl HK6.out ?_)
        | (with_reducible refine store_t rfl (.tmp 2) (.tmp 24) rfl (w.heap.size + 1) rfl rfl HZ6.out ?_))
      have R7 := HR6.out.row (b := w.heap.size + 1) (cs := csT sg st A1 k p1 (some ⟨g1, 0, none⟩) k q1 D1 n r1) (by omega)
      exact bodyPost_ret (res_t2 (y := .int .i64 0) rfl _ _ (w.heap.size + 1) rfl rfl (HZ6.out.row _)) rfl ⟨A1, k, p1, some ⟨g1, 0, none⟩, k, q1, D1, n, r1, rfl, R7.tin, own_cap R7.a, (R7.wide (by omega)).fresh, below_row HB6.out (by omega) _⟩
end Go.Proofs.Ytpgbbbgblgkokaa
