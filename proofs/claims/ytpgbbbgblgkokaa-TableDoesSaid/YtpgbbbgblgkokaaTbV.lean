/- The document's Room; no memory that was there is changed. -/
import Derived.Test.YtpgbbbgblgkokaaTbW
import Derived.Test.YtpgbbbgblgkokaaTbJ
import Derived.Test.YtpgbbbgblgkokaaTbZ
namespace Go.Proofs.Ytpgbbbgblgkokaa
open Go.RowKit Go.Lib
set_option linter.unusedVariables false

theorem arrF21 {cs : Array Value} (h : cs.size = 21) : ∃ y : Nat → Value, (∀ i, cs.getD i undef = y i) ∧ cs = #[y 0, y 1, y 2, y 3, y 4, y 5, y 6, y 7, y 8, y 9, y 10, y 11, y 12, y 13, y 14, y 15, y 16, y 17, y 18, y 19, y 20] := by
  refine ⟨fun i => cs.getD i undef, fun _ => rfl, ?_⟩
  have e : cs = ((List.range 21).map fun i => cs.getD i undef).toArray := by
    apply Array.ext
    · simp [h]
    · intro i h1 h2
      simp [h1]
  exact e.trans rfl

set_option maxRecDepth 100000 in
set_option maxHeartbeats 4000000 in
theorem rroom_is (sg st : Int) (A : Option Addr) (m p : Nat) (B : Option Addr) (k q : Nat) (C : Option Addr) (n r : Nat) (o l f : List Int) (y : Int) (w : World) (h : TIn w A m B k C n o l f) (hok : okP ⟨sg, st, o, l, f⟩) (hy : roomT ⟨sg, st, o, l, f⟩ = y) :
    Calls Try.prog 20 #[.agg #[.int .i64 sg, .int .i64 st, .slice A m p, .slice B k q, .slice C n r]] w fun e w' => e = .returned (.int .i64 y) ∧ Below w.heap.size w w' := by
  have hm := (ok_full hok h).2.1
  have hk := (ok_full hok h).2.2.1
  have hml := (ok_full hok h).2.2.2.2.1
  have hsl : k = l.length := h.b.len
  have hol : m = o.length := h.a.len
  have hlast := hok.2.2.2.2.2.1 _ (last_mem (l := l) (by omega))
  simp only at hlast
  have hf := ok_free hok
  have hbd := ok_bounds hok
  have h1 := hok.1
  have h2 := hok.2.1
  simp only at h1 h2 hf
  obtain ⟨gg, off, rfl, hbb, hcell⟩ := last_cell h.b (by omega)
  obtain ⟨z, HZ⟩ : ∃ z, Hid (lastN l = z) := ⟨_, Lib.hid rfl⟩
  rw [HZ.out] at hlast hcell
  have hbx := below1 w (.cells #[.int .i64 sg, .int .i64 st, .slice A m p, .slice (some ⟨gg, off, none⟩) k q, .slice C n r] 32)
  obtain ⟨i, Hi⟩ : ∃ i, Hid (k - 1 = i) := ⟨_, Lib.hid rfl⟩
  rw [Hi.out] at hcell
  have hik : i < k := by have := Hi.out; omega
  have hiki : (i : Int) < (k : Int) := by omega
  obtain ⟨d1, E1⟩ : ∃ d, Hid (st - z = d) := ⟨_, Lib.hid rfl⟩
  obtain ⟨d3, E3⟩ : ∃ d, Hid (((freeT ⟨sg, st, o, l, f⟩).length : Int) * st = d) := ⟨_, Lib.hid rfl⟩
  have e3 : d1 + d3 = y := by
    rw [← hy, ← E1.out, ← E3.out, ← HZ.out]
    unfold roomT
    simp only
    rw [show sg - (o.length : Int) = ((freeT ⟨sg, st, o, l, f⟩).length : Int) by omega, Int.mul_comm st]
  have b3 : 0 ≤ d3 ∧ d3 ≤ 480 := by
    have h3 := hbd.r
    rw [hy] at h3
    refine ⟨?_, by have := E1.out; omega⟩
    rw [← E3.out]
    exact Int.mul_nonneg (by omega) (by omega)
  have q0 : IntKind.i64.wrap ((k : Int) - 1) = (i : Int) := by rw [IntWalk.i64_in _ (by omega)]; have := Hi.out; omega
  have q1 : IntKind.i64.wrap (st - z) = d1 := by rw [E1.out]; exact IntWalk.i64_in _ (by have := E1.out; omega)
  have q3 : IntKind.i64.wrap (((freeT ⟨sg, st, o, l, f⟩).length : Int) * st) = d3 := by rw [E3.out]; exact IntWalk.i64_in _ (by omega)
  have q4 : IntKind.i64.wrap (d1 + d3) = y := by rw [e3]; exact IntWalk.i64_in _ (by have := hbd.r; rw [hy] at this; omega)
  have I : Its w [(w.heap.size, 32, csT sg st A m p (some ⟨gg, off, none⟩) k q C n r)] [(.i64, A, m, o), (.i64, (some ⟨gg, off, none⟩), k, l), (.u64, C, n, f)] (w.alloc (.cells #[.int .i64 sg, .int .i64 st, .slice A m p, .slice (some ⟨gg, off, none⟩) k q, .slice C n r] 32)) := ((Its.nil hbx).cons (Blk.new w _ _)).tcons (h.later hbx)
  clear hlast hbd hf h hbx hsl hol hk
  go_enter Try.func20, Try.ntmps20
  go_wp2_with fail
  refine wp_its [.is (.pointer (some ⟨w.heap.size, 1, none⟩)),
    .is (.int .i64 (st)),
    .is (.pointer (some ⟨w.heap.size, 3, none⟩)),
    .is (.slice (some ⟨gg, off, none⟩) k q),
    .is (.pointer (some ⟨w.heap.size, 3, none⟩)),
    .is (.slice (some ⟨gg, off, none⟩) k q),
    .is (.int .i64 ((k : Nat))),
    .is (.int .i64 ((i : Int))),
    .is (.pointer (some ⟨gg, off + i, none⟩)),
    .is (.int .i64 (z)),
    .is (.int .i64 (d1)),
    .is (.agg #[.int .i64 (sg), .int .i64 (st), .slice A m p, .slice (some ⟨gg, off, none⟩) k q, .slice C n r]),
    .lst (freeT ⟨sg, st, o, l, f⟩),
    .is (.int .i64 (((freeT ⟨sg, st, o, l, f⟩).length : Nat))),
    .is (.pointer (some ⟨w.heap.size, 1, none⟩)),
    .is (.int .i64 (st)),
    .is (.int .i64 (d3)),
    .is (.int .i64 (y)),
    .is (.int .i64 (y))] [(w.heap.size, 32, csT sg st A m p (some ⟨gg, off, none⟩) k q C n r)] [(.i64, A, m, o), (.i64, (some ⟨gg, off, none⟩), k, l), (.u64, C, n, f)] (by kernel_rfl) (by kernel_rfl) I ?_ ?_
  · refine ⟨?_, ?_, ?_, ?_, ?_, ?_, ?_, ?_, ?_, ?_, ?_, ?_, ?_, ?_, ?_, ?_, ?_, ?_, ?_, trivial⟩
    · intro listed A0 W hA hr K hK
      have e1 : A0.tmps[1]?.getD undef = .pointer (some ⟨w.heap.size, 0, none⟩) := slot_is ((hA.kept 1 (Free.not_dst (by kernel_rfl))).trans rfl)
      rw [if_pos (FreeG.wanted_plain rfl)]
      simp [go_sem, e1]
      exact hK _ _ (Below.refl _ _) rfl
    · intro listed A0 W hA hr K hK
      have e3 : A0.tmps[3]?.getD undef = .pointer (some ⟨w.heap.size, 1, none⟩) := slot_is (hA.val 0 _ rfl (hr ⟨0, .data⟩ (by simp) rfl))
      have f0 : W.cell? ⟨w.heap.size, 1, none⟩ = some (.int .i64 (st)) := (hA.c.at_ 0 rfl).cell 1
      rw [if_pos (FreeG.wanted_plain rfl)]
      simp [go_sem, e3, f0]
      exact hK _ _ (Below.refl _ _) rfl
    · intro listed A0 W hA hr K hK
      have e1 : A0.tmps[1]?.getD undef = .pointer (some ⟨w.heap.size, 0, none⟩) := slot_is ((hA.kept 1 (Free.not_dst (by kernel_rfl))).trans rfl)
      rw [if_pos (FreeG.wanted_plain rfl)]
      simp [go_sem, e1]
      exact hK _ _ (Below.refl _ _) rfl
    · intro listed A0 W hA hr K hK
      have e5 : A0.tmps[5]?.getD undef = .pointer (some ⟨w.heap.size, 3, none⟩) := slot_is (hA.val 2 _ rfl (hr ⟨2, .data⟩ (by simp) rfl))
      have f0 : W.cell? ⟨w.heap.size, 3, none⟩ = some (.slice (some ⟨gg, off, none⟩) k q) := (hA.c.at_ 0 rfl).cell 3
      rw [if_pos (FreeG.wanted_plain rfl)]
      simp [go_sem, e5, f0]
      exact hK _ _ (Below.refl _ _) rfl
    · intro listed A0 W hA hr K hK
      have e1 : A0.tmps[1]?.getD undef = .pointer (some ⟨w.heap.size, 0, none⟩) := slot_is ((hA.kept 1 (Free.not_dst (by kernel_rfl))).trans rfl)
      rw [if_pos (FreeG.wanted_plain rfl)]
      simp [go_sem, e1]
      exact hK _ _ (Below.refl _ _) rfl
    · intro listed A0 W hA hr K hK
      have e7 : A0.tmps[7]?.getD undef = .pointer (some ⟨w.heap.size, 3, none⟩) := slot_is (hA.val 4 _ rfl (hr ⟨4, .data⟩ (by simp) rfl))
      have f0 : W.cell? ⟨w.heap.size, 3, none⟩ = some (.slice (some ⟨gg, off, none⟩) k q) := (hA.c.at_ 0 rfl).cell 3
      rw [if_pos (FreeG.wanted_plain rfl)]
      simp [go_sem, e7, f0]
      exact hK _ _ (Below.refl _ _) rfl
    · intro listed A0 W hA hr K hK
      have e8 : A0.tmps[8]?.getD undef = .slice (some ⟨gg, off, none⟩) k q := slot_is (hA.val 5 _ rfl (hr ⟨5, .data⟩ (by simp) rfl))
      rw [if_pos (FreeG.wanted_plain rfl)]
      simp [go_sem, e8]
      exact hK _ _ (Below.refl _ _) rfl
    · intro listed A0 W hA hr K hK
      have e9 : A0.tmps[9]?.getD undef = .int .i64 ((k : Nat)) := slot_is (hA.val 6 _ rfl (hr ⟨6, .data⟩ (by simp) rfl))
      rw [if_pos (FreeG.wanted_plain rfl)]
      simp [go_sem, e9, q0]
      exact hK _ _ (Below.refl _ _) rfl
    · intro listed A0 W hA hr K hK
      have e6 : A0.tmps[6]?.getD undef = .slice (some ⟨gg, off, none⟩) k q := slot_is (hA.val 3 _ rfl (hr ⟨3, .data⟩ (by simp) rfl))
      have e10 : A0.tmps[10]?.getD undef = .int .i64 ((i : Int)) := slot_is (hA.val 7 _ rfl (hr ⟨7, .data⟩ (by simp) rfl))
      rw [if_pos (FreeG.wanted_plain rfl)]
      simp [go_sem, e6, e10, hiki]
      exact hK _ _ (Below.refl _ _) rfl
    · intro listed A0 W hA hr K hK
      have e11 : A0.tmps[11]?.getD undef = .pointer (some ⟨gg, off + i, none⟩) := slot_is (hA.val 8 _ rfl (hr ⟨8, .data⟩ (by simp) rfl))
      rw [if_pos (FreeG.wanted_plain rfl)]
      have c0 := ((bcell hA.c.b).1 gg (off + i) hbb).trans hcell
      simp [go_sem, e11, c0]
      exact hK _ _ (Below.refl _ _) rfl
    · intro listed A0 W hA hr K hK
      have e4 : A0.tmps[4]?.getD undef = .int .i64 (st) := slot_is (hA.val 1 _ rfl (hr ⟨1, .data⟩ (by simp) rfl))
      have e12 : A0.tmps[12]?.getD undef = .int .i64 (z) := slot_is (hA.val 9 _ rfl (hr ⟨9, .data⟩ (by simp) rfl))
      rw [if_pos (FreeG.wanted_plain rfl)]
      simp [go_sem, e4, e12, q1]
      exact hK _ _ (Below.refl _ _) rfl
    · intro listed A0 W hA hr K hK
      have e1 : A0.tmps[1]?.getD undef = .pointer (some ⟨w.heap.size, 0, none⟩) := slot_is ((hA.kept 1 (Free.not_dst (by kernel_rfl))).trans rfl)
      have f0 : W.cell? ⟨w.heap.size, 0, none⟩ = some (.int .i64 (sg)) := (hA.c.at_ 0 rfl).cell 0
      have f1 : W.cell? ⟨w.heap.size, 1, none⟩ = some (.int .i64 (st)) := (hA.c.at_ 0 rfl).cell 1
      have f2 : W.cell? ⟨w.heap.size, 2, none⟩ = some (.slice A m p) := (hA.c.at_ 0 rfl).cell 2
      have f3 : W.cell? ⟨w.heap.size, 3, none⟩ = some (.slice (some ⟨gg, off, none⟩) k q) := (hA.c.at_ 0 rfl).cell 3
      have f4 : W.cell? ⟨w.heap.size, 4, none⟩ = some (.slice C n r) := (hA.c.at_ 0 rfl).cell 4
      rw [if_pos (FreeG.wanted_plain rfl)]
      simp [go_sem, e1, f0, f1, f2, f3, f4]
      exact hK _ _ (Below.refl _ _) rfl
    · intro listed A0 W hA hr K hK
      have e14 : A0.tmps[14]?.getD undef = .agg #[.int .i64 (sg), .int .i64 (st), .slice A m p, .slice (some ⟨gg, off, none⟩) k q, .slice C n r] := slot_is (hA.val 11 _ rfl (hr ⟨11, .data⟩ (by simp) rfl))
      rw [if_pos (FreeG.wanted_plain rfl)]
      simp [go_sem, e14]
      refine (rfree_any sg st A m p (some ⟨gg, off, none⟩) k q C n r o l f _ (hA.c.tab 0 rfl rfl rfl) hml ⟨by omega, h1.2⟩).mono ?_
      rintro e' w' ⟨A1, m1, p1, rfl, h1, hb⟩
      exact hK _ _ hb ⟨A1, m1, p1, rfl, h1⟩
    · intro listed A0 W hA hr K hK
      have e15 : ∃ A m p, A0.tmps[15]?.getD undef = .slice A m p ∧ Sl .i64 W A m (freeT ⟨sg, st, o, l, f⟩) := slot_lst (hA.val 12 _ rfl (hr ⟨12, .data⟩ (by simp) rfl))
      rw [if_pos (FreeG.wanted_plain rfl)]
      obtain ⟨A1, m1, p1, h1, h2⟩ := e15
      simp [go_sem, h1]
      exact hK _ _ (Below.refl _ _) (show Value.int .i64 _ = .int .i64 _ from by rw [h2.len])
    · intro listed A0 W hA hr K hK
      have e1 : A0.tmps[1]?.getD undef = .pointer (some ⟨w.heap.size, 0, none⟩) := slot_is ((hA.kept 1 (Free.not_dst (by kernel_rfl))).trans rfl)
      rw [if_pos (FreeG.wanted_plain rfl)]
      simp [go_sem, e1]
      exact hK _ _ (Below.refl _ _) rfl
    · intro listed A0 W hA hr K hK
      have e17 : A0.tmps[17]?.getD undef = .pointer (some ⟨w.heap.size, 1, none⟩) := slot_is (hA.val 14 _ rfl (hr ⟨14, .data⟩ (by simp) rfl))
      have f0 : W.cell? ⟨w.heap.size, 1, none⟩ = some (.int .i64 (st)) := (hA.c.at_ 0 rfl).cell 1
      rw [if_pos (FreeG.wanted_plain rfl)]
      simp [go_sem, e17, f0]
      exact hK _ _ (Below.refl _ _) rfl
    · intro listed A0 W hA hr K hK
      have e16 : A0.tmps[16]?.getD undef = .int .i64 (((freeT ⟨sg, st, o, l, f⟩).length : Nat)) := slot_is (hA.val 13 _ rfl (hr ⟨13, .data⟩ (by simp) rfl))
      have e18 : A0.tmps[18]?.getD undef = .int .i64 (st) := slot_is (hA.val 15 _ rfl (hr ⟨15, .data⟩ (by simp) rfl))
      rw [if_pos (FreeG.wanted_plain rfl)]
      simp [go_sem, e16, e18, q3]
      exact hK _ _ (Below.refl _ _) rfl
    · intro listed A0 W hA hr K hK
      have e13 : A0.tmps[13]?.getD undef = .int .i64 (d1) := slot_is (hA.val 10 _ rfl (hr ⟨10, .data⟩ (by simp) rfl))
      have e19 : A0.tmps[19]?.getD undef = .int .i64 (d3) := slot_is (hA.val 16 _ rfl (hr ⟨16, .data⟩ (by simp) rfl))
      rw [if_pos (FreeG.wanted_plain rfl)]
      simp [go_sem, e13, e19, q4]
      exact hK _ _ (Below.refl _ _) rfl
    · intro listed A0 W hA hr K hK
      have e20 : A0.tmps[20]?.getD undef = .int .i64 (y) := slot_is (hA.val 17 _ rfl (hr ⟨17, .data⟩ (by simp) rfl))
      rw [if_pos (FreeG.wanted_plain rfl)]
      simp [go_sem, e20]
      exact hK _ _ (Below.refl _ _) rfl
  · intro A0 W hA
    have s6 : A0.tmps.getD 2 undef = .int .i64 y := hA.val 18 _ rfl rfl
    have hsz := hA.slots
    have hde := hA.defers
    have hb := hA.c.b
    clear hA
    obtain ⟨tm, de⟩ := A0
    simp only at s6 hsz hde
    obtain ⟨y', hy', rfl⟩ := arrF21 hsz
    have t6 : y' 2 = .int .i64 y := (hy' 2).symm.trans s6
    subst hde
    clear s6 hsz hy'
    go_wp2_with fail
    go_ret
    exact ⟨by rw [t6]; rfl, hb⟩
end Go.Proofs.Ytpgbbbgblgkokaa
