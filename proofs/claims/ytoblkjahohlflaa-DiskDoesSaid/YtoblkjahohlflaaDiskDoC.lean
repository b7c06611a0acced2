/- lodgerlaw05.Do: the walk. -/
import Derived.Test.YtoblkjahohlflaaDiskDoB
import Derived.Test.YtoblkjahohlflaaDiskG
namespace Go.Proofs.Ytoblkjahohlflaa
open Go.RowKit Go.MapKept Go.Lib
set_option linter.unusedVariables false

structure DoT (W0 : World) (L : List Item) (j d r : Nat) (s : St) (Al : Option Addr) (n cl : Nat) (Aw : Option Addr) (p cw : Nat) (w : World) : Prop where
  sep : Sep W0 w L
  hj : L[j]? = some (diskI d s)
  hn : s.size = (n : Int)
  hp : s.pend.length = p
  c0 : w.cell? ⟨r, 0, none⟩ = some (.slice Al n cl)
  c1 : w.cell? ⟨r, 1, none⟩ = some (.slice Aw p cw)
section
variable {W0 w : World} {L : List Item} {j k d r : Nat} {s : St} {Al : Option Addr} {n cl : Nat} {Aw : Option Addr} {p cw : Nat}
theorem DoT.drawn (h : DoT W0 L j d r s Al n cl Aw p cw w) : DoT W0 L j d r s Al n cl Aw p cw { w with drawn := w.drawn + 1 } := ⟨h.sep.drew, h.hj, h.hn, h.hp, h.c0, h.c1⟩
theorem pend_t (h : DoT W0 L j d r s Al n cl Aw p cw w) : Calls Try.prog 18 #[.pointer (some ⟨d, 0, none⟩)] w fun e w' => e = .returned (.int .i64 (p : Int)) ∧ DoT W0 L j d r s Al n cl Aw p cw w' := by
  obtain ⟨G, D, _⟩ := h.sep.at_ j h.hj
  refine (pending_any D).mono fun e w' ⟨he, hw⟩ => ⟨?_, hw ▸ h⟩
  rw [he, h.hp]
theorem len_t (h : DoT W0 L j d r s Al n cl Aw p cw w) : Calls Try.prog 20 #[.pointer (some ⟨d, 0, none⟩)] w fun e w' => e = .returned (.int .i64 (n : Int)) ∧ DoT W0 L j d r s Al n cl Aw p cw w' := by
  obtain ⟨G, D, _⟩ := h.sep.at_ j h.hj
  refine (len_any D).mono fun e w' ⟨he, hw⟩ => ⟨?_, hw ▸ h⟩
  rw [he, h.hn]
theorem doT_of (h : Sep W0 w L) (hj : L[j]? = some (diskI d s)) (hk : L[k]? = some (refI r s)) : ∃ Al cl n Aw cw p, DoT W0 L j d r s Al n cl Aw p cw w := by
  obtain ⟨G, ⟨vL, vW, vT, D⟩, _⟩ := h.at_ k hk
  have hg := D.good
  obtain ⟨Al, cl, hvl⟩ := own_slice D.rowL
  obtain ⟨Aw, cw, hvw⟩ := own_slice D.rowW
  have h1 := hg.size1
  exact ⟨Al, cl, s.size.toNat, Aw, cw, s.pend.length, h, hj, by omega, rfl, by rw [← hvl]; exact D.blk.cell 0, by rw [← hvw]; exact D.blk.cell 1⟩
end

theorem do_none {W0 w : World} {L : List Item} {j k d r : Nat} {s : St} (h : Sep W0 w L) (hj : L[j]? = some (diskI d s)) (hk : L[k]? = some (refI r s)) (jk : j ≠ k) (hpl : s.pend.length < 1048576) (K I T P : Int) (S : ByteArray) (A : Option Addr) (m c : Nat)
    (hS : S.size ≤ maxLen) (hI : (Lit.int .i64 I).wf = true) (hq : bits .and .i64 K 7 = 7) :
    Calls Try.prog 9 #[.pointer (some ⟨d, 0, none⟩), .pointer (some ⟨r, 0, none⟩), .agg #[.int .i64 K, .int .i64 I, .string S, .slice A m c, .int .i64 T, .int .i64 P]] w fun e w' => e = .returned (.int .i64 1) ∧ Sep W0 w' L := by
  have h2 := Lib.hid (h.box 36 #[.int .i64 K, .int .i64 I, .string S, .slice A m c, .int .i64 T, .int .i64 P])
  have lj : j < L.length := (List.getElem?_eq_some_iff.1 hj).1
  have lk : k < L.length := (List.getElem?_eq_some_iff.1 hk).1
  have hj2 := Lib.hid ((List.getElem?_append_left lj).trans hj : (L ++ [cellsI w.heap.size 36 #[.int .i64 K, .int .i64 I, .string S, .slice A m c, .int .i64 T, .int .i64 P]])[j]? = _)
  have hk2 := Lib.hid ((List.getElem?_append_left lk).trans hk : (L ++ [cellsI w.heap.size 36 #[.int .i64 K, .int .i64 I, .string S, .slice A m c, .int .i64 T, .int .i64 P]])[k]? = _)
  have hn2 := Lib.hid (by simp : (L ++ [cellsI w.heap.size 36 #[.int .i64 K, .int .i64 I, .string S, .slice A m c, .int .i64 T, .int .i64 P]])[L.length]? = some (cellsI w.heap.size 36 #[.int .i64 K, .int .i64 I, .string S, .slice A m c, .int .i64 T, .int .i64 P]))
  have back := Lib.hid (fun w' (g : Sep W0 w' (L ++ [cellsI w.heap.size 36 #[.int .i64 K, .int .i64 I, .string S, .slice A m c, .int .i64 T, .int .i64 P]])) => g.init)
  obtain ⟨x, cd, HDr, HRr⟩ := read_both s I hpl
  replace HDr := Lib.hid HDr
  replace HRr := Lib.hid HRr
  clear lj lk
  go_enter Try.func9, Try.ntmps9
  go_wp2_with fail
  generalize (L ++ [cellsI w.heap.size 36 #[.int .i64 K, .int .i64 I, .string S, .slice A m c, .int .i64 T, .int .i64 P]]) = L2 at *
  refine (HDr.out W0 _ _ j d h2.out (hj2.out)).mono ?_
  rintro e w1 ⟨rfl, h3⟩
  rw [set_same hj2.out] at h3
  have h3 := Lib.hid h3
  have c1 : w1.cell? ⟨w.heap.size, 1, none⟩ = some (.int .i64 I) := (cells_s h3.out hn2.out).cell 1
  go_wp2_with fail
  refine (HRr.out W0 _ _ k r h3.out (hk2.out)).mono ?_
  rintro e w2 ⟨rfl, h4⟩
  rw [set_same hk2.out] at h4
  have h4 := Lib.hid h4
  clear c1
  go_wp2_with fail
  obtain ⟨Al, cl, n, Aw, cw, p, hT⟩ := doT_of h4.out hj2.out hk2.out
  have hT := Lib.hid hT
  have hne : Nonempty (In (DoT W0 L2 j d r s Al n cl Aw p cw)) := ⟨⟨_, hT.out⟩⟩
  have i0 : ∀ i : In (DoT W0 L2 j d r s Al n cl Aw p cw), i.W.cell? ⟨r, 0, none⟩ = some (.slice Al n cl) := fun i => i.h.c0
  have i1 : ∀ i : In (DoT W0 L2 j d r s Al n cl Aw p cw), i.W.cell? ⟨r, 1, none⟩ = some (.slice Aw p cw) := fun i => i.h.c1
  refine region_class (DoT W0 L2 j d r s Al n cl Aw p cw) (by kernel_rfl) (by kernel_rfl) hT.out.drawn ?_
  repeat (go_big_quiet_step (first
    | (go_at_call 18; with_reducible exact class_call _ (fun hi => pend_t hi))
    | (go_at_call 20; with_reducible exact class_call _ (fun hi => len_t hi))))
  refine wpQuiet_nil ?_
  rintro _ ⟨i, rfl⟩
  go_wp2_with fail
  go_ret
  exact ⟨rfl, back.out _ i.h.sep⟩

end Go.Proofs.Ytoblkjahohlflaa
