/- lodgerlaw05.Do: the walk, kind by kind. -/
import Derived.Test.YtoblkjahohlflaaDiskDoC
namespace Go.Proofs.Ytoblkjahohlflaa
open Go.RowKit Go.MapKept Go.Lib
set_option linter.unusedVariables false

theorem do_lists {L : List Item} {j k d r B : Nat} {s s' : St} {t : TypeId} {cs : Array Value} (hj : L[j]? = some (diskI d s)) (hk : L[k]? = some (refI r s)) (jk : j ≠ k) :
    ∃ L2 M2 M3 : List Item, L2 = L ++ [cellsI B t cs] ∧ M2 = L2.set j (diskI d s') ∧ M3 = M2.set k (refI r s') ∧ L2[j]? = some (diskI d s) ∧ L2[k]? = some (refI r s) ∧ L2[L.length]? = some (cellsI B t cs) ∧ M2[k]? = some (refI r s) ∧ M2[L.length]? = some (cellsI B t cs) ∧
      M3[j]? = some (diskI d s') ∧ M3[k]? = some (refI r s') ∧ M3[L.length]? = some (cellsI B t cs) ∧ j ≠ L.length ∧ k ≠ L.length ∧ ∀ W0 w', Sep W0 w' M3 → Sep W0 w' ((L.set j (diskI d s')).set k (refI r s')) := by
  have lj : j < L.length := (List.getElem?_eq_some_iff.1 hj).1
  have lk : k < L.length := (List.getElem?_eq_some_iff.1 hk).1
  have a1 : (L ++ [cellsI B t cs])[j]? = some (diskI d s) := (List.getElem?_append_left lj).trans hj
  have a2 : (L ++ [cellsI B t cs])[k]? = some (refI r s) := (List.getElem?_append_left lk).trans hk
  have a3 : (L ++ [cellsI B t cs])[L.length]? = some (cellsI B t cs) := by simp
  have nj : j ≠ L.length := by omega
  have nk : k ≠ L.length := by omega
  refine ⟨_, _, _, rfl, rfl, rfl, a1, a2, a3, ?_, ?_, ?_, ?_, ?_, nj, nk, fun W0 w' h => ?_⟩
  · rw [List.getElem?_set_ne jk]; exact a2
  · rw [List.getElem?_set_ne nj]; exact a3
  · rw [List.getElem?_set_ne (Ne.symm jk), List.getElem?_set_self (by simp; omega)]
  · rw [List.getElem?_set_self (by simp; omega)]
  · rw [List.getElem?_set_ne nk, List.getElem?_set_ne nj]; exact a3
  · rw [List.set_append_left _ _ lj, List.set_append_left _ _ (by simpa using lk)] at h
    exact h.init

theorem do_flush {W0 w : World} {L : List Item} {j k d r : Nat} {s : St} (h : Sep W0 w L) (hj : L[j]? = some (diskI d s)) (hk : L[k]? = some (refI r s)) (jk : j ≠ k) (hpl : s.pend.length + 1 < 1048576) (K I T P : Int) (S : ByteArray) (A : Option Addr) (m c : Nat)
    (hS : S.size ≤ maxLen) (hI : (Lit.int .i64 I).wf = true) (hq : bits .and .i64 K 7 = 3) :
    Calls Try.prog 9 #[.pointer (some ⟨d, 0, none⟩), .pointer (some ⟨r, 0, none⟩), .agg #[.int .i64 K, .int .i64 I, .string S, .slice A m c, .int .i64 T, .int .i64 P]] w fun e w' => ∃ s', e = .returned (.int .i64 1) ∧ s'.pend.length ≤ s.pend.length + 1 ∧ Sep W0 w' ((L.set j (diskI d s')).set k (refI r s')) := by
  obtain ⟨cf, s', hpl', -, HD, HR⟩ := flush_both s (by omega)
  replace HD := Lib.hid HD
  replace HR := Lib.hid HR
  have h2 := Lib.hid (h.box 36 #[.int .i64 K, .int .i64 I, .string S, .slice A m c, .int .i64 T, .int .i64 P])
  obtain ⟨L2, M2, M3, hL2, hM2, hM3, hj2, hk2, hn2, hk2', hn2', hj3, hk3, hn3, jn, kn, back⟩ := do_lists (s' := s') (B := w.heap.size) (t := 36) (cs := #[.int .i64 K, .int .i64 I, .string S, .slice A m c, .int .i64 T, .int .i64 P]) hj hk jk
  rw [← hL2] at h2
  replace hM2 := Lib.hid hM2
  replace hM3 := Lib.hid hM3
  replace hj2 := Lib.hid hj2
  replace hk2 := Lib.hid hk2
  replace hn2 := Lib.hid hn2
  replace hk2' := Lib.hid hk2'
  replace hn2' := Lib.hid hn2'
  replace hj3 := Lib.hid hj3
  replace hk3 := Lib.hid hk3
  replace hn3 := Lib.hid hn3
  replace jn := Lib.hid jn
  replace kn := Lib.hid kn
  replace back := Lib.hid back
  clear hL2
  obtain ⟨x, cr, HDr, HRr⟩ := read_both s' I (by omega)
  replace HDr := Lib.hid HDr
  replace HRr := Lib.hid HRr
  replace hpl' := Lib.hid hpl'
  go_enter Try.func9, Try.ntmps9
  go_wp2_with fail
  refine (HD.out W0 _ _ j d h2.out hj2.out).mono ?_
  rintro e wa ⟨rfl, ha⟩
  rw [← hM2.out] at ha
  replace ha := Lib.hid ha
  go_wp2_with fail
  refine (HR.out W0 _ _ k r ha.out hk2'.out).mono ?_
  rintro e wb ⟨rfl, hB⟩
  rw [← hM3.out] at hB
  replace hB := Lib.hid hB
  have c9 : wb.cell? ⟨w.heap.size, 1, none⟩ = some (.int .i64 I) := (cells_s hB.out hn3.out).cell 1
  go_wp2_with fail
  refine (HDr.out W0 _ _ j d hB.out (hj3.out)).mono ?_
  rintro e w1 ⟨rfl, h3⟩
  rw [set_same hj3.out] at h3
  replace h3 := Lib.hid h3
  have c1 : w1.cell? ⟨w.heap.size, 1, none⟩ = some (.int .i64 I) := (cells_s h3.out hn3.out).cell 1
  go_wp2_with fail
  refine (HRr.out W0 _ _ k r h3.out (hk3.out)).mono ?_
  rintro e w2 ⟨rfl, h4⟩
  rw [set_same hk3.out] at h4
  replace h4 := Lib.hid h4
  clear c1
  go_wp2_with fail
  obtain ⟨Al, cl, n, Aw, cw, p, hT⟩ := doT_of h4.out hj3.out hk3.out
  replace hT := Lib.hid hT
  have hne : Nonempty (In (DoT W0 M3 j d r s' Al n cl Aw p cw)) := ⟨⟨_, hT.out⟩⟩
  have i0 : ∀ i : In (DoT W0 M3 j d r s' Al n cl Aw p cw), i.W.cell? ⟨r, 0, none⟩ = some (.slice Al n cl) := fun i => i.h.c0
  have i1 : ∀ i : In (DoT W0 M3 j d r s' Al n cl Aw p cw), i.W.cell? ⟨r, 1, none⟩ = some (.slice Aw p cw) := fun i => i.h.c1
  refine region_class (DoT W0 M3 j d r s' Al n cl Aw p cw) (by kernel_rfl) (by kernel_rfl) hT.out.drawn ?_
  repeat (go_big_quiet_step (first
    | (go_at_call 18; with_reducible exact class_call _ (fun hi => pend_t hi))
    | (go_at_call 20; with_reducible exact class_call _ (fun hi => len_t hi))))
  refine wpQuiet_nil ?_
  rintro _ ⟨i, rfl⟩
  go_wp2_with fail
  go_ret
  exact ⟨s', rfl, hpl'.out, back.out _ _ i.h.sep⟩

theorem do_limit {W0 w : World} {L : List Item} {j k d r : Nat} {s : St} (h : Sep W0 w L) (hj : L[j]? = some (diskI d s)) (hk : L[k]? = some (refI r s)) (jk : j ≠ k) (hpl : s.pend.length + 1 < 1048576) (K I T P : Int) (S : ByteArray) (A : Option Addr) (m c : Nat)
    (hS : S.size ≤ maxLen) (hI : (Lit.int .i64 I).wf = true) (hq : bits .and .i64 K 7 = 4) :
    Calls Try.prog 9 #[.pointer (some ⟨d, 0, none⟩), .pointer (some ⟨r, 0, none⟩), .agg #[.int .i64 K, .int .i64 I, .string S, .slice A m c, .int .i64 T, .int .i64 P]] w fun e w' => ∃ s', e = .returned (.int .i64 1) ∧ s'.pend.length ≤ s.pend.length + 1 ∧ Sep W0 w' ((L.set j (diskI d s')).set k (refI r s')) := by
  obtain ⟨s', hs'⟩ : ∃ s', s' = s.limit I := ⟨_, rfl⟩
  have hpl' : s'.pend.length ≤ s.pend.length + 1 := by rw [hs']; simp [St.limit]
  obtain ⟨HD, HR⟩ := limit_both s I (i64_of hI).1 (i64_of hI).2
  rw [← hs'] at HD HR
  replace HD := Lib.hid HD
  replace HR := Lib.hid HR
  clear hs'
  have h2 := Lib.hid (h.box 36 #[.int .i64 K, .int .i64 I, .string S, .slice A m c, .int .i64 T, .int .i64 P])
  obtain ⟨L2, M2, M3, hL2, hM2, hM3, hj2, hk2, hn2, hk2', hn2', hj3, hk3, hn3, jn, kn, back⟩ := do_lists (s' := s') (B := w.heap.size) (t := 36) (cs := #[.int .i64 K, .int .i64 I, .string S, .slice A m c, .int .i64 T, .int .i64 P]) hj hk jk
  rw [← hL2] at h2
  replace hM2 := Lib.hid hM2
  replace hM3 := Lib.hid hM3
  replace hj2 := Lib.hid hj2
  replace hk2 := Lib.hid hk2
  replace hn2 := Lib.hid hn2
  replace hk2' := Lib.hid hk2'
  replace hn2' := Lib.hid hn2'
  replace hj3 := Lib.hid hj3
  replace hk3 := Lib.hid hk3
  replace hn3 := Lib.hid hn3
  replace jn := Lib.hid jn
  replace kn := Lib.hid kn
  replace back := Lib.hid back
  clear hL2
  obtain ⟨x, cr, HDr, HRr⟩ := read_both s' I (by omega)
  replace HDr := Lib.hid HDr
  replace HRr := Lib.hid HRr
  replace hpl' := Lib.hid hpl'
  go_enter Try.func9, Try.ntmps9
  go_wp2_with fail
  refine (HD.out W0 _ _ j d h2.out hj2.out).mono ?_
  rintro e wa ⟨rfl, ha⟩
  rw [← hM2.out] at ha
  replace ha := Lib.hid ha
  have c5 : wa.cell? ⟨w.heap.size, 1, none⟩ = some (.int .i64 I) := (cells_s ha.out hn2'.out).cell 1
  go_wp2_with fail
  refine (HR.out W0 _ _ k r ha.out hk2'.out).mono ?_
  rintro e wb ⟨rfl, hB⟩
  rw [← hM3.out] at hB
  replace hB := Lib.hid hB
  have c9 : wb.cell? ⟨w.heap.size, 1, none⟩ = some (.int .i64 I) := (cells_s hB.out hn3.out).cell 1
  go_wp2_with fail
  refine (HDr.out W0 _ _ j d hB.out (hj3.out)).mono ?_
  rintro e w1 ⟨rfl, h3⟩
  rw [set_same hj3.out] at h3
  replace h3 := Lib.hid h3
  have c1 : w1.cell? ⟨w.heap.size, 1, none⟩ = some (.int .i64 I) := (cells_s h3.out hn3.out).cell 1
  go_wp2_with fail
  refine (HRr.out W0 _ _ k r h3.out (hk3.out)).mono ?_
  rintro e w2 ⟨rfl, h4⟩
  rw [set_same hk3.out] at h4
  replace h4 := Lib.hid h4
  clear c1
  go_wp2_with fail
  obtain ⟨Al, cl, n, Aw, cw, p, hT⟩ := doT_of h4.out hj3.out hk3.out
  replace hT := Lib.hid hT
  have hne : Nonempty (In (DoT W0 M3 j d r s' Al n cl Aw p cw)) := ⟨⟨_, hT.out⟩⟩
  have i0 : ∀ i : In (DoT W0 M3 j d r s' Al n cl Aw p cw), i.W.cell? ⟨r, 0, none⟩ = some (.slice Al n cl) := fun i => i.h.c0
  have i1 : ∀ i : In (DoT W0 M3 j d r s' Al n cl Aw p cw), i.W.cell? ⟨r, 1, none⟩ = some (.slice Aw p cw) := fun i => i.h.c1
  refine region_class (DoT W0 M3 j d r s' Al n cl Aw p cw) (by kernel_rfl) (by kernel_rfl) hT.out.drawn ?_
  repeat (go_big_quiet_step (first
    | (go_at_call 18; with_reducible exact class_call _ (fun hi => pend_t hi))
    | (go_at_call 20; with_reducible exact class_call _ (fun hi => len_t hi))))
  refine wpQuiet_nil ?_
  rintro _ ⟨i, rfl⟩
  go_wp2_with fail
  go_ret
  exact ⟨s', rfl, hpl'.out, back.out _ _ i.h.sep⟩

theorem do_crash {W0 w : World} {L : List Item} {j k d r : Nat} {s : St} (h : Sep W0 w L) (hj : L[j]? = some (diskI d s)) (hk : L[k]? = some (refI r s)) (jk : j ≠ k) (hpl : s.pend.length + 1 < 1048576) (K I T P : Int) (S : ByteArray) (A : Option Addr) (m c : Nat)
    (hS : S.size ≤ maxLen) (hI : (Lit.int .i64 I).wf = true) (hq : bits .and .i64 K 7 = 5) (keep : Nat → Bool) (hm : m ≤ maxLen) (hc : CellsIn W0 A m (fun j => .bool (keep j))) (hkf : ∀ j, m ≤ j → keep j = false) :
    Calls Try.prog 9 #[.pointer (some ⟨d, 0, none⟩), .pointer (some ⟨r, 0, none⟩), .agg #[.int .i64 K, .int .i64 I, .string S, .slice A m c, .int .i64 T, .int .i64 P]] w fun e w' => ∃ s', e = .returned (.int .i64 1) ∧ s'.pend.length ≤ s.pend.length + 1 ∧ Sep W0 w' ((L.set j (diskI d s')).set k (refI r s')) := by
  obtain ⟨s', hs'⟩ : ∃ s', s' = s.crash keep T (clampN P) := ⟨_, rfl⟩
  have hpl' : s'.pend.length ≤ s.pend.length + 1 := by rw [hs']; simp [St.crash]
  have HD := Lib.hid (fun w items (g : Sep W0 w items) (k d : Nat) (hk : items[k]? = some (diskI d s)) => crash_arg_s g k hk A m c hm keep T P hc hkf (by omega))
  have HR := Lib.hid (fun w items (g : Sep W0 w items) (k r : Nat) (hk : items[k]? = some (refI r s)) => rcrash_arg_s g hk A m c hm keep T P hc hkf (by omega))
  rw [← hs'] at HD HR
  clear hs'
  have h2 := Lib.hid (h.box 36 #[.int .i64 K, .int .i64 I, .string S, .slice A m c, .int .i64 T, .int .i64 P])
  obtain ⟨L2, M2, M3, hL2, hM2, hM3, hj2, hk2, hn2, hk2', hn2', hj3, hk3, hn3, jn, kn, back⟩ := do_lists (s' := s') (B := w.heap.size) (t := 36) (cs := #[.int .i64 K, .int .i64 I, .string S, .slice A m c, .int .i64 T, .int .i64 P]) hj hk jk
  rw [← hL2] at h2
  replace hM2 := Lib.hid hM2
  replace hM3 := Lib.hid hM3
  replace hj2 := Lib.hid hj2
  replace hk2 := Lib.hid hk2
  replace hn2 := Lib.hid hn2
  replace hk2' := Lib.hid hk2'
  replace hn2' := Lib.hid hn2'
  replace hj3 := Lib.hid hj3
  replace hk3 := Lib.hid hk3
  replace hn3 := Lib.hid hn3
  replace jn := Lib.hid jn
  replace kn := Lib.hid kn
  replace back := Lib.hid back
  clear hL2
  obtain ⟨x, cr, HDr, HRr⟩ := read_both s' I (by omega)
  replace HDr := Lib.hid HDr
  replace HRr := Lib.hid HRr
  replace hpl' := Lib.hid hpl'
  go_enter Try.func9, Try.ntmps9
  go_wp2_with fail
  refine (HD.out _ _ h2.out j d hj2.out).mono ?_
  rintro e wa ⟨rfl, ha⟩
  rw [← hM2.out] at ha
  replace ha := Lib.hid ha
  have c8 : wa.cell? ⟨w.heap.size, 3, none⟩ = some (.slice A m c) := (cells_s ha.out hn2'.out).cell 3
  have c9 : wa.cell? ⟨w.heap.size, 4, none⟩ = some (.int .i64 T) := (cells_s ha.out hn2'.out).cell 4
  have c10 : wa.cell? ⟨w.heap.size, 5, none⟩ = some (.int .i64 P) := (cells_s ha.out hn2'.out).cell 5
  go_wp2_with fail
  refine (HR.out _ _ ha.out k r hk2'.out).mono ?_
  rintro e wb ⟨rfl, hB⟩
  rw [← hM3.out] at hB
  replace hB := Lib.hid hB
  have c9 : wb.cell? ⟨w.heap.size, 1, none⟩ = some (.int .i64 I) := (cells_s hB.out hn3.out).cell 1
  go_wp2_with fail
  refine (HDr.out W0 _ _ j d hB.out (hj3.out)).mono ?_
  rintro e w1 ⟨rfl, h3⟩
  rw [set_same hj3.out] at h3
  replace h3 := Lib.hid h3
  have c1 : w1.cell? ⟨w.heap.size, 1, none⟩ = some (.int .i64 I) := (cells_s h3.out hn3.out).cell 1
  go_wp2_with fail
  refine (HRr.out W0 _ _ k r h3.out (hk3.out)).mono ?_
  rintro e w2 ⟨rfl, h4⟩
  rw [set_same hk3.out] at h4
  replace h4 := Lib.hid h4
  clear c1
  go_wp2_with fail
  obtain ⟨Al, cl, n, Aw, cw, p, hT⟩ := doT_of h4.out hj3.out hk3.out
  replace hT := Lib.hid hT
  have hne : Nonempty (In (DoT W0 M3 j d r s' Al n cl Aw p cw)) := ⟨⟨_, hT.out⟩⟩
  have i0 : ∀ i : In (DoT W0 M3 j d r s' Al n cl Aw p cw), i.W.cell? ⟨r, 0, none⟩ = some (.slice Al n cl) := fun i => i.h.c0
  have i1 : ∀ i : In (DoT W0 M3 j d r s' Al n cl Aw p cw), i.W.cell? ⟨r, 1, none⟩ = some (.slice Aw p cw) := fun i => i.h.c1
  refine region_class (DoT W0 M3 j d r s' Al n cl Aw p cw) (by kernel_rfl) (by kernel_rfl) hT.out.drawn ?_
  repeat (go_big_quiet_step (first
    | (go_at_call 18; with_reducible exact class_call _ (fun hi => pend_t hi))
    | (go_at_call 20; with_reducible exact class_call _ (fun hi => len_t hi))))
  refine wpQuiet_nil ?_
  rintro _ ⟨i, rfl⟩
  go_wp2_with fail
  go_ret
  exact ⟨s', rfl, hpl'.out, back.out _ _ i.h.sep⟩

end Go.Proofs.Ytoblkjahohlflaa
