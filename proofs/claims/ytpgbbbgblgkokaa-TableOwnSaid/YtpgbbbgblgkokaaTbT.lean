/- The document's Count; no memory that was there is changed. -/
import Derived.Test.YtpgbbbgblgkokaaTbS
import Derived.Test.YtpgbbbgblgkokaaTbK
namespace Go.Proofs.Ytpgbbbgblgkokaa
open Go.RowKit Go.Lib
set_option linter.unusedVariables false

theorem arrF32 {cs : Array Value} (h : cs.size = 32) : ∃ y : Nat → Value, (∀ i, cs.getD i undef = y i) ∧ cs = #[y 0, y 1, y 2, y 3, y 4, y 5, y 6, y 7, y 8, y 9, y 10, y 11, y 12, y 13, y 14, y 15, y 16, y 17, y 18, y 19, y 20, y 21, y 22, y 23, y 24, y 25, y 26, y 27, y 28, y 29, y 30, y 31] := by
  refine ⟨fun i => cs.getD i undef, fun _ => rfl, ?_⟩
  have e : cs = ((List.range 32).map fun i => cs.getD i undef).toArray := by
    apply Array.ext
    · simp [h]
    · intro i h1 h2
      simp [h1]
  exact e.trans rfl

set_option maxRecDepth 100000 in
set_option maxHeartbeats 16000000 in
theorem rcount_any (sg st : Int) (A : Option Addr) (m p : Nat) (B : Option Addr) (k q : Nat) (C : Option Addr) (n r : Nat) (o l f : List Int) (w : World) (h : TIn w A m B k C n o l f) (hok : okP ⟨sg, st, o, l, f⟩) :
    Calls Try.prog 38 #[.agg #[.int .i64 sg, .int .i64 st, .slice A m p, .slice B k q, .slice C n r]] w (RefF (tabOf (countT ⟨sg, st, o, l, f⟩)) (errOf (countT ⟨sg, st, o, l, f⟩) 10) w) := by
  have hm := (ok_full hok h).2.1
  have hk := (ok_full hok h).2.2.1
  have hn := (ok_full hok h).2.2.2.1
  have hm1 : 1 ≤ m ∧ m ≤ 1000 := by omega
  have hk1 : 1 ≤ k ∧ k ≤ 1000 := by omega
  have hn1 : 1 ≤ n ∧ n ≤ 1000 := by omega
  clear hm hk hn
  have hsl : k = l.length := h.b.len
  have hlast := hok.2.2.2.2.2.1 _ (last_mem (l := l) (by omega))
  simp only at hlast
  have h2 := hok.2.1
  simp only at h2
  obtain ⟨gg, off, rfl, hbb, hc⟩ := last_cell h.b (by omega)
  obtain ⟨z, HZ⟩ : ∃ z, Hid (lastN l = z) := ⟨_, Lib.hid rfl⟩
  rw [HZ.out] at hlast hc
  obtain ⟨i, Hi⟩ : ∃ i, Hid (k - 1 = i) := ⟨_, Lib.hid rfl⟩
  rw [Hi.out] at hc
  have hik : i < k := by have := Hi.out; omega
  have hiki : (i : Int) < (k : Int) := by omega
  have w1 : IntKind.i64.wrap ((k : Int) - 1) = (i : Int) := by rw [IntWalk.i64_in _ (by omega)]; have := Hi.out; omega
  have hv := Try.zeroValue32
  have HT := Lib.hid h
  have SL := Lib.hid hsl
  have B0 : Below w.heap.size w ((w.alloc (.cells #[.int .i64 sg, .int .i64 st, .slice A m p, .slice (some ⟨gg, off, none⟩) k q, .slice C n r] 32)).alloc (.cells #[.int .i64 0, .int .i64 0, .slice none 0 0, .slice none 0 0, .slice none 0 0] 32)) := Ge.trans (below1 _ _) (below1 _ _)
  have K0 : Blk ((w.alloc (.cells #[.int .i64 sg, .int .i64 st, .slice A m p, .slice (some ⟨gg, off, none⟩) k q, .slice C n r] 32)).alloc (.cells #[.int .i64 0, .int .i64 0, .slice none 0 0, .slice none 0 0, .slice none 0 0] 32)) w.heap.size 32 (csT sg st A m p (some ⟨gg, off, none⟩) k q C n r) := (Blk.new w _ _).later (below1 _ _)
  have Z0 : Blk ((w.alloc (.cells #[.int .i64 sg, .int .i64 st, .slice A m p, .slice (some ⟨gg, off, none⟩) k q, .slice C n r] 32)).alloc (.cells #[.int .i64 0, .int .i64 0, .slice none 0 0, .slice none 0 0, .slice none 0 0] 32)) (w.heap.size + 1) 32 (csT 0 0 none 0 0 none 0 0 none 0 0) := Blk.at_ _ _ _ (by simp)
  have S0 : w.heap.size + 2 ≤ ((w.alloc (.cells #[.int .i64 sg, .int .i64 st, .slice A m p, .slice (some ⟨gg, off, none⟩) k q, .slice C n r] 32)).alloc (.cells #[.int .i64 0, .int .i64 0, .slice none 0 0, .slice none 0 0, .slice none 0 0] 32)).heap.size := by simp
  clear h hsl
  go_enter Try.func38, Try.ntmps38
  go_wp2_with fail
  refine FreeC.wp_freeC (List.map CndA.p [.is (.agg #[.int .i64 sg, .int .i64 st, .slice A m p, .slice (some ⟨gg, off, none⟩) k q, .slice C n r]),
    .row3 (w.heap.size + 2) sg st m k n o l f,
    .is (.pointer (some ⟨w.heap.size, 3, none⟩)),
    .is (.slice (some ⟨gg, off, none⟩) k q),
    .is (.int .i64 (k : Nat)),
    .is (.int .i64 (i : Nat)),
    .any,
    .any,
    .is (.int .i64 (i : Nat))]) (AwC w (w.heap.size + 1) (w.heap.size + 2) 6 7 4 (csT sg st A m p (some ⟨gg, off, none⟩) k q C n r) sg st m k n o l f) (by kernel_rfl) (by kernel_rfl) ⟨Ge.trans B0 (below_drawn _), K0.later (below_drawn _), Z0.later (below_drawn _), S0, by omega, by omega, fun e => by simp at e, fun e => by simp at e⟩ ?_ ?_
  · clear K0 Z0 B0 S0
    refine ⟨?_, ?_, ?_, ?_, ?_, ?_, ?_, ?_, ?_, trivial⟩
    · intro listed A0 W hA hno hr K hK
      have e1 : A0.tmps[1]?.getD undef = .pointer (some ⟨w.heap.size, 0, none⟩) := slot_is ((hA.kept 1 (Free.not_dst (by kernel_rfl))).trans rfl)
      have c0 : W.cell? ⟨w.heap.size, 0, none⟩ = some (.int .i64 sg) := hA.c.kb.cell 0
      have c1 : W.cell? ⟨w.heap.size, 1, none⟩ = some (.int .i64 st) := hA.c.kb.cell 1
      have c2 : W.cell? ⟨w.heap.size, 2, none⟩ = some (.slice A m p) := hA.c.kb.cell 2
      have c3 : W.cell? ⟨w.heap.size, 3, none⟩ = some (.slice (some ⟨gg, off, none⟩) k q) := hA.c.kb.cell 3
      have c4 : W.cell? ⟨w.heap.size, 4, none⟩ = some (.slice C n r) := hA.c.kb.cell 4
      simp [go_sem, e1, c0, c1, c2, c3, c4]
      exact hK _ _ (hA.c.step 0 6 _ (by omega) (by omega) (by omega) (Below.refl _ _)) rfl (fun j u _ _ hu => CndA.keep (Below.refl _ _) hu)
    · intro listed A0 W hA hno hr K hK
      have e6 : A0.tmps[6]?.getD undef = .agg #[.int .i64 sg, .int .i64 st, .slice A m p, .slice (some ⟨gg, off, none⟩) k q, .slice C n r] := slot_is (hA.val 0 _ rfl (hr ⟨0, .data⟩ (by simp) rfl))
      simp [go_sem, e6]
      refine (rown_any sg st A m p (some ⟨gg, off, none⟩) k q C n r o l f W (HT.out.later hA.c.b) hm1 hk1 hn1).mono ?_
      rintro e' w' ⟨A1, p1, B1, q1, C1, r1, rfl, R1, hb⟩
      exact hK _ _ (hA.c.step 1 7 _ (by omega) (by omega) (by omega) hb) ⟨A1, p1, B1, q1, C1, r1, rfl, R1.wide hA.c.s⟩ (fun j u _ _ hu => CndA.keep hb hu)
    · intro listed A0 W hA hno hr K hK
      have e1 : A0.tmps[1]?.getD undef = .pointer (some ⟨w.heap.size, 0, none⟩) := slot_is ((hA.kept 1 (Free.not_dst (by kernel_rfl))).trans rfl)
      simp [go_sem, e1]
      exact hK _ _ (hA.c.step 2 8 _ (by omega) (by omega) (by omega) (Below.refl _ _)) rfl (fun j u _ _ hu => CndA.keep (Below.refl _ _) hu)
    · intro listed A0 W hA hno hr K hK
      have e8 : A0.tmps[8]?.getD undef = .pointer (some ⟨w.heap.size, 3, none⟩) := slot_is (hA.val 2 _ rfl (hr ⟨2, .data⟩ (by simp) rfl))
      have c3 : W.cell? ⟨w.heap.size, 3, none⟩ = some (.slice (some ⟨gg, off, none⟩) k q) := hA.c.kb.cell 3
      simp [go_sem, e8, c3]
      exact hK _ _ (hA.c.step 3 9 _ (by omega) (by omega) (by omega) (Below.refl _ _)) rfl (fun j u _ _ hu => CndA.keep (Below.refl _ _) hu)
    · intro listed A0 W hA hno hr K hK
      have e9 : A0.tmps[9]?.getD undef = .slice (some ⟨gg, off, none⟩) k q := slot_is (hA.val 3 _ rfl (hr ⟨3, .data⟩ (by simp) rfl))
      simp [go_sem, e9]
      exact hK _ _ (hA.c.step 4 10 _ (by omega) (by omega) (by omega) (Below.refl _ _)) rfl (fun j u _ _ hu => CndA.keep (Below.refl _ _) hu)
    · intro listed A0 W hA hno hr K hK
      have e10 : A0.tmps[10]?.getD undef = .int .i64 (k : Nat) := slot_is (hA.val 4 _ rfl (hr ⟨4, .data⟩ (by simp) rfl))
      simp [go_sem, e10, w1]
      exact hK _ _ (hA.c.step 5 11 _ (by omega) (by omega) (by omega) (Below.refl _ _)) rfl (fun j u _ _ hu => CndA.keep (Below.refl _ _) hu)
    · intro listed A0 W hA hno hr K hK
      have hsz := hA.size
      simp at hsz
      have hts := hA.slots
      simp at hts
      simp [go_sem, hv]
      exact hK _ _ (hA.c.alloc (by omega) (by omega) (by omega) hno) trivial (fun j u _ _ hu => CndA.keep (below1 _ _) hu)
    · intro listed A0 W hA hno hr K hK
      obtain ⟨A1, p1, B1, q1, C1, r1, e7, R1⟩ := slot_row3 (hA.val 1 _ rfl (hr ⟨1, .data⟩ (by simp) rfl))
      have hsz := hA.size
      simp at hsz
      have hla := hr ⟨6, .data⟩ (by simp) rfl
      obtain ⟨b, hs4, hbb, hz4, _⟩ := hA.c.blk hla
      have hB := hz4 (not_listed (by omega) hno)
      refine wp_store_row _ (.tmp 4) (.tmp 7) rfl b (csT sg st A1 m p1 B1 k q1 C1 n r1) hs4 (by simpa [Act.eval, csT] using e7) _ _ hB info_r rfl (csT_one _ _ _ _ _ _ _ _ _ _ _) ?_
      exact hK undef _ (hA.c.store (by omega) (by omega) hla hs4 hB hbb R1) trivial (fun j u _ _ hu => CndA.lift (fun c => c.far hB _) hu)
    · intro listed A0 W hA hno hr K hK
      have e11 : A0.tmps[11]?.getD undef = .int .i64 (i : Nat) := slot_is (hA.val 5 _ rfl (hr ⟨5, .data⟩ (by simp) rfl))
      simp [go_sem, e11]
      exact hK _ _ (hA.c.step 8 5 _ (by omega) (by omega) (by omega) (Below.refl _ _)) rfl (fun j u _ _ hu => CndA.keep (Below.refl _ _) hu)
  · intro A0 W hA
    clear K0 Z0 B0 S0
    obtain ⟨b4, s4, hb4, _, hw⟩ := hA.c.blk rfl
    obtain ⟨A1, p1, B1, q1, C1, r1, K4, R4⟩ := hw rfl
    have s1 : A0.tmps.getD 1 undef = .pointer (some ⟨w.heap.size, 0, none⟩) := (hA.kept 1 (Free.not_dst (by kernel_rfl))).trans rfl
    have s2 : A0.tmps.getD 2 undef = .pointer (some ⟨w.heap.size + 1, 0, none⟩) := (hA.kept 2 (Free.not_dst (by kernel_rfl))).trans rfl
    have s5 : A0.tmps.getD 5 undef = .int .i64 (i : Nat) := hA.val 8 _ rfl rfl
    have hsz := hA.slots
    have hde := hA.defers
    have BB := hA.c.b
    have KB := hA.c.kb
    have ZB := hA.c.z
    have SB := hA.c.s
    clear hA hw
    obtain ⟨tm, de⟩ := A0
    simp only at s4 s1 s2 s5 hsz hde
    obtain ⟨y, hy, ee⟩ := arrF32 hsz
    have t1 := (hy _).symm.trans s1
    have t2 := (hy _).symm.trans s2
    have t4 := (hy _).symm.trans s4
    have t5 := (hy _).symm.trans s5
    rw [t1, t2, t4, t5] at ee
    clear hy s1 s2 s4 s5 hsz t1 t2 t4 t5
    subst ee hde
    have hgW : gg < W.heap.size := Nat.lt_of_lt_of_le hbb BB.size
    have hcW : W.cell? ⟨gg, off + i, none⟩ = some (.int .i64 z) := ((bcell BB).1 _ _ hbb).trans hc
    obtain ⟨g1, rfl, hg1, hg2⟩ := own_some R4.b (by omega)
    have I : Its W [(w.heap.size, 32, csT sg st A m p (some ⟨gg, off, none⟩) k q C n r)] [] W := (Its.nil (Below.refl _ _)).cons KB
    have hne : Nonempty (In (Its W [(w.heap.size, 32, csT sg st A m p (some ⟨gg, off, none⟩) k q C n r)] [])) := ⟨⟨_, I⟩⟩
    have f0 : ∀ j : In (Its W [(w.heap.size, 32, csT sg st A m p (some ⟨gg, off, none⟩) k q C n r)] []), j.W.cell? ⟨w.heap.size, 0, none⟩ = some (.int .i64 sg) := fun j => (j.h.at_ 0 rfl).cell 0
    have f1 : ∀ j : In (Its W [(w.heap.size, 32, csT sg st A m p (some ⟨gg, off, none⟩) k q C n r)] []), j.W.cell? ⟨w.heap.size, 1, none⟩ = some (.int .i64 st) := fun j => (j.h.at_ 0 rfl).cell 1
    have f2 : ∀ j : In (Its W [(w.heap.size, 32, csT sg st A m p (some ⟨gg, off, none⟩) k q C n r)] []), j.W.cell? ⟨w.heap.size, 2, none⟩ = some (.slice A m p) := fun j => (j.h.at_ 0 rfl).cell 2
    have f3 : ∀ j : In (Its W [(w.heap.size, 32, csT sg st A m p (some ⟨gg, off, none⟩) k q C n r)] []), j.W.cell? ⟨w.heap.size, 3, none⟩ = some (.slice (some ⟨gg, off, none⟩) k q) := fun j => (j.h.at_ 0 rfl).cell 3
    have f4 : ∀ j : In (Its W [(w.heap.size, 32, csT sg st A m p (some ⟨gg, off, none⟩) k q C n r)] []), j.W.cell? ⟨w.heap.size, 4, none⟩ = some (.slice C n r) := fun j => (j.h.at_ 0 rfl).cell 4
    have fe : ∀ j : In (Its W [(w.heap.size, 32, csT sg st A m p (some ⟨gg, off, none⟩) k q C n r)] []), j.W.cell? ⟨gg, off + i, none⟩ = some (.int .i64 z) := fun j => ((bcell j.h.b).1 gg (off + i) hgW).trans hcW
    have II := Lib.hid I
    have HB := Lib.hid BB
    have HK := Lib.hid K4
    have HR := Lib.hid R4
    have HZ4 := Lib.hid ZB
    clear I hc hcW BB K4 R4 ZB KB HT
    by_cases hz : z = st
    · have HC : Hid (countT ⟨sg, st, o, l, f⟩ = none) := Lib.hid (by unfold countT; simp only; rw [HZ.out, if_pos hz])
      subst hz
      have hge : z ≤ z := Int.le_refl _
      clear hlast h2
      go_wp2_with fail
      refine region_class (Its W [(w.heap.size, 32, csT sg z A m p (some ⟨gg, off, none⟩) k q C n r)] []) (by kernel_rfl) (by kernel_rfl) II.out.drawn ?_
      repeat (go_big_quiet_step (fail))
      refine wpQuiet_nil ?_
      rintro _ ⟨j, rfl⟩
      have Z1 := Lib.hid (HZ4.out.later j.h.b)
      have B1' := Ge.trans HB.out j.h.b
      go_wp2_with (with_reducible refine store_r rfl (.tmp 2) (.tmp 20) rfl (w.heap.size + 1) rfl rfl Z1.out ?_)
      exact bodyPost_ret (res_r2 (y := .int .i64 10) rfl _ _ (w.heap.size + 1) rfl rfl (Z1.out.row _)) rfl (by rw [HC.out]; exact zero_reff 10 w _ (below_row B1' (by omega) _))
    · have HC : Hid (countT ⟨sg, st, o, l, f⟩ = some ⟨sg, st, o, l.set i (z + 1), f⟩) := Lib.hid (by
        unfold countT countedT; simp only; rw [HZ.out, if_neg hz, ← SL.out, Hi.out])
      have hge : ¬ st ≤ z := by omega
      have HN : Hid (nth l i = z) := Lib.hid (by rw [← HZ.out]; unfold lastN; rw [← SL.out, Hi.out])
      have z0 : 0 ≤ z ∧ z ≤ 30 := by omega
      have w2 : IntKind.i64.wrap (z + 1) = z + 1 := IntWalk.i64_in _ (by omega)
      clear hlast h2 hz
      go_wp2_with fail
      refine region_class (Its W [(w.heap.size, 32, csT sg st A m p (some ⟨gg, off, none⟩) k q C n r)] []) (by kernel_rfl) (by kernel_rfl) II.out.drawn ?_
      repeat (go_big_quiet_step (fail))
      refine wpQuiet_nil ?_
      rintro _ ⟨j, rfl⟩
      have K4 := HK.out.later j.h.b
      have Z4 := HZ4.out.later j.h.b
      have B4 := Ge.trans HB.out j.h.b
      have R4 := HR.out.later j.h.b
      have hg4 : g1 < j.W.heap.size := Nat.lt_of_lt_of_le hg2 j.h.b.size
      clear f0 f1 f2 f3 f4 fe hne II HB HK HR HZ4 hg2 hgW
      generalize j.W = W4 at *
      have ke : W4.cell? ⟨g1, i, none⟩ = some (.int .i64 z) := by
        have := R4.b.cellAt i (by omega)
        rw [iv_at .i64 (by rw [← SL.out]; exact hik), HN.out] at this
        exact this
      have kf : W4.frozen? ⟨g1, i, none⟩ = false := R4.b.frozenAt i
      have k3 : W4.cell? ⟨b4, 3, none⟩ = some (.slice (some ⟨g1, 0, none⟩) k q1) := K4.cell 3
      have hne4 : b4 ≠ g1 := by
        intro e
        subst e
        have h3 := K4.cell 2
        have h5 : W4.heap[b4]? = some (.cells (csT sg st A1 m p1 (some ⟨b4, 0, none⟩) k q1 C1 n r1) 32 (0, 0)) := K4
        rcases R4.b.2 with ⟨e0, _⟩ | ⟨g', cap, cur, he, hbg, hg, hcc⟩
        · injection e0 with e0; cases e0
        · injection he with he
          injection he with he
          injection he with he
          subst he
          rw [h5] at hg
          injection hg with hg
          injection hg with _ hg
          exact absurd hg (by decide)
      have HK4 := Lib.hid K4
      have HZ5 := Lib.hid Z4
      have HB4 := Lib.hid B4
      have HR4 := Lib.hid R4
      clear K4 Z4 B4 R4
      go_wp2_with fail
      go_cut [] (fun wx => (W4.drew).setCell ⟨g1, i, none⟩ (.int .i64 (z + 1)) = wx)
      case first =>
        go_region
        all_goals
          go_wp2_with fail
          go_meet
          rfl
      case rest =>
      subst hcut
      have b5 := below_drawn W4
      have R5 := (HR4.out.later b5).put i (z + 1)
      have K5 := blk_far (i := i) (u := .int .i64 (z + 1)) (HK4.out.later b5) hne4
      have Z5 := blk_far (i := i) (u := .int .i64 (z + 1)) (HZ5.out.later b5) (show w.heap.size + 1 ≠ g1 by omega)
      have B5 : Below w.heap.size w ((W4.drew).setCell ⟨g1, i, none⟩ (.int .i64 (z + 1))) := Below.setCell (p := ⟨g1, i, none⟩) (Ge.trans HB4.out b5) (by show w.heap.size ≤ g1; omega) _
      generalize (W4.drew).setCell ⟨g1, i, none⟩ (.int .i64 (z + 1)) = W6 at *
      have HK6 := Lib.hid K5
      have HZ6 := Lib.hid Z5
      clear K5 Z5 HR4 HK4 HZ5 HB4 k3 ke kf b5
      go_wp2_with (first
        | (with_reducible refine load_r rfl (.tmp 4) rfl b4 rfl HK6.out ?_)
        | (with_reducible refine store_r rfl (.tmp 2) (.tmp 31) rfl (w.heap.size + 1) rfl rfl HZ6.out ?_))
      have R7 := R5.row (b := w.heap.size + 1) (cs := csT sg st A1 m p1 (some ⟨g1, 0, none⟩) k q1 C1 n r1) (by omega)
      exact bodyPost_ret (res_r2 (y := .int .i64 0) rfl _ _ (w.heap.size + 1) rfl rfl (HZ6.out.row _)) rfl (by rw [HC.out]; exact ⟨A1, m, p1, some ⟨g1, 0, none⟩, k, q1, C1, n, r1, rfl, R7.tin, (R7.wide (by omega)).fresh, below_row B5 (by omega) _⟩)
end Go.Proofs.Ytpgbbbgblgkokaa
