/- lodgerlaw05.Do: whatever its Op is. -/
import Derived.Test.YtoblkjahohlflaaDiskDoE
namespace Go.Proofs.Ytoblkjahohlflaa
open Go.RowKit Go.MapKept Go.Lib
set_option linter.unusedVariables false

theorem do_else {W0 w : World} {L : List Item} {j k d r : Nat} {s : St} (h : Sep W0 w L) (hj : L[j]? = some (diskI d s)) (hk : L[k]? = some (refI r s)) (jk : j ≠ k) (hpl : s.pend.length < 1048576) (K I T P : Int) (S : ByteArray) (A : Option Addr) (m c : Nat)
    (hS : S.size ≤ maxLen) (hI : (Lit.int .i64 I).wf = true) (q : Int) (hq : bits .and .i64 K 7 = q) (g0 : (q == 0) = false) (g1 : (q == 1) = false) (g2 : (q == 2) = false) (g3 : (q == 3) = false) (g4 : (q == 4) = false) (g5 : (q == 5) = false) (g6 : (q == 6) = false) :
    Calls Try.prog 9 #[.pointer (some ⟨d, 0, none⟩), .pointer (some ⟨r, 0, none⟩), .agg #[.int .i64 K, .int .i64 I, .string S, .slice A m c, .int .i64 T, .int .i64 P]] w fun e w' => e = .returned (.int .i64 1) ∧ Sep W0 w' L := by
  have h2 := Lib.hid (h.box 36 #[.int .i64 K, .int .i64 I, .string S, .slice A m c, .int .i64 T, .int .i64 P])
  have lj : j < L.length := (List.getElem?_eq_some_iff.1 hj).1
  have lk : k < L.length := (List.getElem?_eq_some_iff.1 hk).1
  have hj2 := Lib.hid ((List.getElem?_append_left lj).trans hj : (L ++ [cellsI w.heap.size 36 #[.int .i64 K, .int .i64 I, .string S, .slice A m c, .int .i64 T, .int .i64 P]])[j]? = _)
  have hk2 := Lib.hid ((List.getElem?_append_left lk).trans hk : (L ++ [cellsI w.heap.size 36 #[.int .i64 K, .int .i64 I, .string S, .slice A m c, .int .i64 T, .int .i64 P]])[k]? = _)
  have hn2 := Lib.hid (by simp : (L ++ [cellsI w.heap.size 36 #[.int .i64 K, .int .i64 I, .string S, .slice A m c, .int .i64 T, .int .i64 P]])[L.length]? = some (cellsI w.heap.size 36 #[.int .i64 K, .int .i64 I, .string S, .slice A m c, .int .i64 T, .int .i64 P]))
  have back := Lib.hid (fun w' (g : Sep W0 w' (L ++ [cellsI w.heap.size 36 #[.int .i64 K, .int .i64 I, .string S, .slice A m c, .int .i64 T, .int .i64 P]])) => g.init)
  obtain ⟨x, cd, HDr, HRr⟩ := read_both s I hpl
  replace HDr := Lib.hid HDr
  replace HRr := Lib.hid HRr
  clear lj lk
  go_enter Try.func9, Try.ntmps9
  go_wp2_with fail
  generalize (L ++ [cellsI w.heap.size 36 #[.int .i64 K, .int .i64 I, .string S, .slice A m c, .int .i64 T, .int .i64 P]]) = L2 at *
  refine (HDr.out W0 _ _ j d h2.out (hj2.out)).mono ?_
  rintro e w1 ⟨rfl, h3⟩
  rw [set_same hj2.out] at h3
  have h3 := Lib.hid h3
  have c1 : w1.cell? ⟨w.heap.size, 1, none⟩ = some (.int .i64 I) := (cells_s h3.out hn2.out).cell 1
  go_wp2_with fail
  refine (HRr.out W0 _ _ k r h3.out (hk2.out)).mono ?_
  rintro e w2 ⟨rfl, h4⟩
  rw [set_same hk2.out] at h4
  have h4 := Lib.hid h4
  clear c1
  go_wp2_with fail
  obtain ⟨Al, cl, n, Aw, cw, p, hT⟩ := doT_of h4.out hj2.out hk2.out
  have hT := Lib.hid hT
  have hne : Nonempty (In (DoT W0 L2 j d r s Al n cl Aw p cw)) := ⟨⟨_, hT.out⟩⟩
  have i0 : ∀ i : In (DoT W0 L2 j d r s Al n cl Aw p cw), i.W.cell? ⟨r, 0, none⟩ = some (.slice Al n cl) := fun i => i.h.c0
  have i1 : ∀ i : In (DoT W0 L2 j d r s Al n cl Aw p cw), i.W.cell? ⟨r, 1, none⟩ = some (.slice Aw p cw) := fun i => i.h.c1
  refine region_class (DoT W0 L2 j d r s Al n cl Aw p cw) (by kernel_rfl) (by kernel_rfl) hT.out.drawn ?_
  repeat (go_big_quiet_step (first
    | (go_at_call 18; with_reducible exact class_call _ (fun hi => pend_t hi))
    | (go_at_call 20; with_reducible exact class_call _ (fun hi => len_t hi))))
  refine wpQuiet_nil ?_
  rintro _ ⟨i, rfl⟩
  go_wp2_with fail
  go_ret
  exact ⟨rfl, back.out _ i.h.sep⟩

theorem op_any {W0 w : World} {L : List Item} {j k d r : Nat} {s : St} (h : Sep W0 w L) (hj : L[j]? = some (diskI d s)) (hk : L[k]? = some (refI r s)) (jk : j ≠ k) (hpl : s.pend.length + 1 < 1048576) (K I T P : Int) (S : ByteArray) (A : Option Addr) (m c : Nat)
    (hS : S.size ≤ maxLen) (hI : (Lit.int .i64 I).wf = true) (keep : Nat → Bool) (hm : m ≤ maxLen) (hc : CellsIn W0 A m (fun j => .bool (keep j))) (hkf : ∀ j, m ≤ j → keep j = false) :
    Calls Try.prog 9 #[.pointer (some ⟨d, 0, none⟩), .pointer (some ⟨r, 0, none⟩), .agg #[.int .i64 K, .int .i64 I, .string S, .slice A m c, .int .i64 T, .int .i64 P]] w fun e w' => ∃ s', e = .returned (.int .i64 1) ∧ s'.pend.length ≤ s.pend.length + 1 ∧ Sep W0 w' ((L.set j (diskI d s')).set k (refI r s')) := by
  by_cases q0 : bits .and .i64 K 7 = 0
  · exact do_write0 h hj hk jk hpl K I T P S A m c hS hI q0
  by_cases q1 : bits .and .i64 K 7 = 1
  · exact do_write1 h hj hk jk hpl K I T P S A m c hS hI q1
  by_cases q2 : bits .and .i64 K 7 = 2
  · exact do_write2 h hj hk jk hpl K I T P S A m c hS hI q2
  by_cases q3 : bits .and .i64 K 7 = 3
  · exact do_flush h hj hk jk hpl K I T P S A m c hS hI q3
  by_cases q4 : bits .and .i64 K 7 = 4
  · exact do_limit h hj hk jk hpl K I T P S A m c hS hI q4
  by_cases q5 : bits .and .i64 K 7 = 5
  · exact do_crash h hj hk jk hpl K I T P S A m c hS hI q5 keep hm hc hkf
  by_cases q6 : bits .and .i64 K 7 = 6
  · exact do_short h hj hk jk hpl K I T P S A m c hS hI q6
  refine (do_else h hj hk jk (by omega) K I T P S A m c hS hI _ rfl (beq_eq_false_iff_ne.2 q0) (beq_eq_false_iff_ne.2 q1) (beq_eq_false_iff_ne.2 q2) (beq_eq_false_iff_ne.2 q3) (beq_eq_false_iff_ne.2 q4) (beq_eq_false_iff_ne.2 q5) (beq_eq_false_iff_ne.2 q6)).mono fun e w' ⟨he, hw⟩ => ⟨s, he, by omega, ?_⟩
  rw [set_same hj, set_same hk]
  exact hw

end Go.Proofs.Ytoblkjahohlflaa
