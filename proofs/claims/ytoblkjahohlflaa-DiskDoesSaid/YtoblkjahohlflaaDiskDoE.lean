/- lodgerlaw05.Do: the walk, kind by kind. -/
import Derived.Test.YtoblkjahohlflaaDiskDoD
namespace Go.Proofs.Ytoblkjahohlflaa
open Go.RowKit Go.MapKept Go.Lib
set_option linter.unusedVariables false

theorem DoC.any {i5 i11 : Nat} {W0 : World} {L : List Item} {j k n d r bx : Nat} {s s' : St} {t : TypeId} {cs : Array Value} {listed : Array Bool} {a a' : Act} {W : World} (h : DoC i5 i11 W0 L j k n d r bx s s' t cs listed a W) : DoC i5 i11 W0 L j k n d r bx s s' t cs listed a' W := ⟨h.sep, h.hj, h.hk, h.hn, h.jk, h.jn, h.kn, h.sz⟩

set_option maxRecDepth 100000 in
theorem arrF129 {cs : Array Value} (h : cs.size = 129) : ∃ y : Nat → Value, (∀ i, cs.getD i undef = y i) ∧ cs = #[y 0, y 1, y 2, y 3, y 4, y 5, y 6, y 7, y 8, y 9, y 10, y 11, y 12, y 13, y 14, y 15, y 16, y 17, y 18, y 19, y 20, y 21, y 22, y 23, y 24, y 25, y 26, y 27, y 28, y 29, y 30, y 31, y 32, y 33, y 34, y 35, y 36, y 37, y 38, y 39, y 40, y 41, y 42, y 43, y 44, y 45, y 46, y 47, y 48, y 49, y 50, y 51, y 52, y 53, y 54, y 55, y 56, y 57, y 58, y 59, y 60, y 61, y 62, y 63, y 64, y 65, y 66, y 67, y 68, y 69, y 70, y 71, y 72, y 73, y 74, y 75, y 76, y 77, y 78, y 79, y 80, y 81, y 82, y 83, y 84, y 85, y 86, y 87, y 88, y 89, y 90, y 91, y 92, y 93, y 94, y 95, y 96, y 97, y 98, y 99, y 100, y 101, y 102, y 103, y 104, y 105, y 106, y 107, y 108, y 109, y 110, y 111, y 112, y 113, y 114, y 115, y 116, y 117, y 118, y 119, y 120, y 121, y 122, y 123, y 124, y 125, y 126, y 127, y 128] := by
  refine ⟨fun i => cs.getD i undef, fun _ => rfl, ?_⟩
  have e : cs = ((List.range 129).map fun i => cs.getD i undef).toArray := by
    apply Array.ext
    · simp [h]
    · intro i h1 h2
      simp [h1]
  exact e.trans rfl

set_option maxHeartbeats 4000000 in
theorem do_short {W0 w : World} {L : List Item} {j k d r : Nat} {s : St} (h : Sep W0 w L) (hj : L[j]? = some (diskI d s)) (hk : L[k]? = some (refI r s)) (jk : j ≠ k) (hpl : s.pend.length + 1 < 1048576) (K I T P : Int) (S : ByteArray) (A : Option Addr) (m c : Nat)
    (hS : S.size ≤ maxLen) (hI : (Lit.int .i64 I).wf = true) (hq : bits .and .i64 K 7 = 6) :
    Calls Try.prog 9 #[.pointer (some ⟨d, 0, none⟩), .pointer (some ⟨r, 0, none⟩), .agg #[.int .i64 K, .int .i64 I, .string S, .slice A m c, .int .i64 T, .int .i64 P]] w fun e w' => ∃ s', e = .returned (.int .i64 1) ∧ s'.pend.length ≤ s.pend.length + 1 ∧ Sep W0 w' ((L.set j (diskI d s')).set k (refI r s')) := by
  obtain ⟨Y, eY⟩ : ∃ Y, Y = S.extract 0 (min (↑S.size : Int) 130).toNat := ⟨_, rfl⟩
  have hY : Y.size ≤ maxLen := by rw [eY]; simp only [ByteArray.size_extract]; omega
  obtain ⟨cd, s', hpl', -, HD, HR⟩ := write_both s I (Y) (by omega)
  have h2 := Lib.hid (h.box 36 #[.int .i64 K, .int .i64 I, .string S, .slice A m c, .int .i64 T, .int .i64 P])
  obtain ⟨L2, M2, M3, hL2, hM2, hM3, hj2, hk2, hn2, hk2', hn2', hj3, hk3, hn3, jn, kn, back⟩ := do_lists (s' := s') (B := w.heap.size) (t := 36) (cs := #[.int .i64 K, .int .i64 I, .string S, .slice A m c, .int .i64 T, .int .i64 P]) hj hk jk
  rw [← hL2] at h2
  replace hM2 := Lib.hid hM2
  replace hM3 := Lib.hid hM3
  replace hj2 := Lib.hid hj2
  replace hk2 := Lib.hid hk2
  replace hn2 := Lib.hid hn2
  replace hk2' := Lib.hid hk2'
  replace hn2' := Lib.hid hn2'
  replace hj3 := Lib.hid hj3
  replace hk3 := Lib.hid hk3
  replace hn3 := Lib.hid hn3
  replace jn := Lib.hid jn
  replace kn := Lib.hid kn
  replace back := Lib.hid back
  clear hL2
  obtain ⟨x, cr, HDr, HRr⟩ := read_both s' I (by omega)
  replace HDr := Lib.hid HDr
  replace HRr := Lib.hid HRr
  replace hpl' := Lib.hid hpl'
  replace HD := Lib.hid HD
  replace HR := Lib.hid HR
  go_enter Try.func9, Try.ntmps9
  go_wp2_with fail
  rw [← eY]
  refine FreeC.wp_freeC [(fun _ u => u = .pointer (some ⟨d, 0, none⟩)),
    (fun _ u => u = .pointer (some ⟨w.heap.size, 1, none⟩)),
    (fun _ u => u = .int .i64 I),
    (fun _ u => u = .string Y),
    (fun _ u => u = .int .i64 cd),
    (fun _ u => u = .pointer (some ⟨r, 0, none⟩)),
    (fun _ u => u = .pointer (some ⟨w.heap.size, 1, none⟩)),
    (fun _ u => u = .int .i64 I),
    (fun _ u => u = .string Y),
    (fun _ u => u = .int .i64 cd),
    (fun _ u => u = .bool false)] (DoC 4 9 W0 L2 j k L.length d r w.heap.size s s' 36 #[.int .i64 K, .int .i64 I, .string S, .slice A m c, .int .i64 T, .int .i64 P]) (by kernel_rfl) (by kernel_rfl) ⟨(show Sep W0 _ (turned L2 j k d r s' false false) from h2.out.drew), hj2.out, hk2.out, hn2.out, jk, jn.out, kn.out, by simp⟩ ?_ ?_
  · have pm : ∀ p ∈ ([(fun _ u => u = .pointer (some ⟨d, 0, none⟩)),
    (fun _ u => u = .pointer (some ⟨w.heap.size, 1, none⟩)),
    (fun _ u => u = .int .i64 I),
    (fun _ u => u = .string Y),
    (fun _ u => u = .int .i64 cd),
    (fun _ u => u = .pointer (some ⟨r, 0, none⟩)),
    (fun _ u => u = .pointer (some ⟨w.heap.size, 1, none⟩)),
    (fun _ u => u = .int .i64 I),
    (fun _ u => u = .string Y),
    (fun _ u => u = .int .i64 cd),
    (fun _ u => u = .bool false)] : List (World → Value → Prop)), ∀ (w w' : World) (u : Value), p w u → p w' u := by
      intro p hp w w' u hu
      simp only [List.mem_cons, List.not_mem_nil, or_false] at hp
      rcases hp with rfl | rfl | rfl | rfl | rfl | rfl | rfl | rfl | rfl | rfl | rfl <;> exact hu
    refine ⟨?_, ?_, ?_, ?_, ?_, ?_, ?_, ?_, ?_, ?_, ?_, trivial⟩
    · intro listed AA W1 hA hno hr KK hK
      have e0 : AA.tmps[0]?.getD undef = .pointer (some ⟨d, 0, none⟩) := slot_is ((hA.kept 0 (Free.not_dst (by kernel_rfl))).trans rfl)
      simp [go_sem, e0]
      exact hK _ _ (hA.c.keep (by decide) (by decide)) rfl (fun _ _ _ _ h => h)
    · intro listed AA W1 hA hno hr KK hK
      have e5 : AA.tmps[5]?.getD undef = .pointer (some ⟨w.heap.size, 0, none⟩) := slot_is ((hA.kept 5 (Free.not_dst (by kernel_rfl))).trans rfl)
      simp [go_sem, e5]
      exact hK _ _ (hA.c.keep (by decide) (by decide)) rfl (fun _ _ _ _ h => h)
    · intro listed AA W1 hA hno hr KK hK
      have e77 : AA.tmps[77]?.getD undef = .pointer (some ⟨w.heap.size, 1, none⟩) := slot_is (hA.val 1 _ rfl (hr ⟨1, .data⟩ (by simp) rfl))
      have c := hA.c.box1 rfl
      simp [go_sem, e77, c]
      exact hK _ _ (hA.c.keep (by decide) (by decide)) rfl (fun _ _ _ _ h => h)
    · intro listed AA W1 hA hno hr KK hK
      have e7 : AA.tmps[7]?.getD undef = .string Y := slot_is ((hA.kept 7 (Free.not_dst (by kernel_rfl))).trans rfl)
      simp [go_sem, e7]
      exact hK _ _ (hA.c.keep (by decide) (by decide)) rfl (fun _ _ _ _ h => h)
    · intro listed AA W1 hA hno hr KK hK
      have e76 : AA.tmps[76]?.getD undef = .pointer (some ⟨d, 0, none⟩) := slot_is (hA.val 0 _ rfl (hr ⟨0, .data⟩ (by simp) rfl))
      have e78 : AA.tmps[78]?.getD undef = .int .i64 I := slot_is (hA.val 2 _ rfl (hr ⟨2, .data⟩ (by simp) rfl))
      have e79 : AA.tmps[79]?.getD undef = .string Y := slot_is (hA.val 3 _ rfl (hr ⟨3, .data⟩ (by simp) rfl))
      simp [go_sem, e76, e78, e79]
      refine (hA.c.step5 (a' := AA) (getD_no hno) HD.out).mono ?_
      rintro e' w' ⟨rfl, hs⟩
      exact hK _ _ hs.any rfl (fun j u _ _ hv => V_mono (fun p hp u hu => pm p hp _ _ u hu) j u hv)
    · intro listed AA W1 hA hno hr KK hK
      have e1 : AA.tmps[1]?.getD undef = .pointer (some ⟨r, 0, none⟩) := slot_is ((hA.kept 1 (Free.not_dst (by kernel_rfl))).trans rfl)
      simp [go_sem, e1]
      exact hK _ _ (hA.c.keep (by decide) (by decide)) rfl (fun _ _ _ _ h => h)
    · intro listed AA W1 hA hno hr KK hK
      have e5 : AA.tmps[5]?.getD undef = .pointer (some ⟨w.heap.size, 0, none⟩) := slot_is ((hA.kept 5 (Free.not_dst (by kernel_rfl))).trans rfl)
      simp [go_sem, e5]
      exact hK _ _ (hA.c.keep (by decide) (by decide)) rfl (fun _ _ _ _ h => h)
    · intro listed AA W1 hA hno hr KK hK
      have e82 : AA.tmps[82]?.getD undef = .pointer (some ⟨w.heap.size, 1, none⟩) := slot_is (hA.val 6 _ rfl (hr ⟨6, .data⟩ (by simp) rfl))
      have c := hA.c.box1 rfl
      simp [go_sem, e82, c]
      exact hK _ _ (hA.c.keep (by decide) (by decide)) rfl (fun _ _ _ _ h => h)
    · intro listed AA W1 hA hno hr KK hK
      have e7 : AA.tmps[7]?.getD undef = .string Y := slot_is ((hA.kept 7 (Free.not_dst (by kernel_rfl))).trans rfl)
      simp [go_sem, e7]
      exact hK _ _ (hA.c.keep (by decide) (by decide)) rfl (fun _ _ _ _ h => h)
    · intro listed AA W1 hA hno hr KK hK
      have e81 : AA.tmps[81]?.getD undef = .pointer (some ⟨r, 0, none⟩) := slot_is (hA.val 5 _ rfl (hr ⟨5, .data⟩ (by simp) rfl))
      have e83 : AA.tmps[83]?.getD undef = .int .i64 I := slot_is (hA.val 7 _ rfl (hr ⟨7, .data⟩ (by simp) rfl))
      have e84 : AA.tmps[84]?.getD undef = .string Y := slot_is (hA.val 8 _ rfl (hr ⟨8, .data⟩ (by simp) rfl))
      simp [go_sem, e81, e83, e84]
      refine (hA.c.step11 (a' := AA) (getD_no hno) HR.out).mono ?_
      rintro e' w' ⟨rfl, hs⟩
      exact hK _ _ hs.any rfl (fun j u _ _ hv => V_mono (fun p hp u hu => pm p hp _ _ u hu) j u hv)
    · intro listed AA W1 hA hno hr KK hK
      have e80 : AA.tmps[80]?.getD undef = .int .i64 cd := slot_is (hA.val 4 _ rfl (hr ⟨4, .data⟩ (by simp) rfl))
      have e85 : AA.tmps[85]?.getD undef = .int .i64 cd := slot_is (hA.val 9 _ rfl (hr ⟨9, .data⟩ (by simp) rfl))
      simp [go_sem, e80, e85]
      exact hK _ _ (hA.c.keep (by decide) (by decide)) rfl (fun _ _ _ _ h => h)
  · intro AA W1 hA
    have s38 := hA.val 10 _ rfl rfl
    have s0 := hA.kept 0 (Free.not_dst (by kernel_rfl))
    have s1 := hA.kept 1 (Free.not_dst (by kernel_rfl))
    have s5 := hA.kept 5 (Free.not_dst (by kernel_rfl))
    have hB : Sep W0 W1 M3 := by
      have := hA.c.sep
      rw [hM3.out, hM2.out]
      simpa [turned] using this
    replace hB := Lib.hid hB
    have hsz := hA.slots
    have hde := hA.defers
    clear hA
    obtain ⟨tm, de⟩ := AA
    simp only [Free.got] at s38 hsz hde
    obtain ⟨y, hy, e⟩ := arrF129 hsz
    have t38 : y 86 = .bool false := (hy _).symm.trans s38
    have t0 : y 0 = .pointer (some ⟨d, 0, none⟩) := (hy _).symm.trans s0
    have t1 : y 1 = .pointer (some ⟨r, 0, none⟩) := (hy _).symm.trans s1
    have t5 : y 5 = .pointer (some ⟨w.heap.size, 0, none⟩) := (hy _).symm.trans s5
    rw [t0, t1, t5, t38] at e
    clear hy s38 s0 s1 s5 hsz t0 t1 t5 t38
    subst e hde
    have c9 : W1.cell? ⟨w.heap.size, 1, none⟩ = some (.int .i64 I) := (cells_s hB.out hn3.out).cell 1
    go_wp2_with fail
    refine (HDr.out W0 _ _ j d hB.out (hj3.out)).mono ?_
    rintro e w1 ⟨rfl, h3⟩
    rw [set_same hj3.out] at h3
    replace h3 := Lib.hid h3
    have c1 : w1.cell? ⟨w.heap.size, 1, none⟩ = some (.int .i64 I) := (cells_s h3.out hn3.out).cell 1
    go_wp2_with fail
    refine (HRr.out W0 _ _ k r h3.out (hk3.out)).mono ?_
    rintro e w2 ⟨rfl, h4⟩
    rw [set_same hk3.out] at h4
    replace h4 := Lib.hid h4
    clear c1
    go_wp2_with fail
    obtain ⟨Al, cl, n, Aw, cw, p, hT⟩ := doT_of h4.out hj3.out hk3.out
    replace hT := Lib.hid hT
    have hne : Nonempty (In (DoT W0 M3 j d r s' Al n cl Aw p cw)) := ⟨⟨_, hT.out⟩⟩
    have i0 : ∀ i : In (DoT W0 M3 j d r s' Al n cl Aw p cw), i.W.cell? ⟨r, 0, none⟩ = some (.slice Al n cl) := fun i => i.h.c0
    have i1 : ∀ i : In (DoT W0 M3 j d r s' Al n cl Aw p cw), i.W.cell? ⟨r, 1, none⟩ = some (.slice Aw p cw) := fun i => i.h.c1
    refine region_class (DoT W0 M3 j d r s' Al n cl Aw p cw) (by kernel_rfl) (by kernel_rfl) hT.out.drawn ?_
    repeat (go_big_quiet_step (first
      | (go_at_call 18; with_reducible exact class_call _ (fun hi => pend_t hi))
      | (go_at_call 20; with_reducible exact class_call _ (fun hi => len_t hi))))
    refine wpQuiet_nil ?_
    rintro _ ⟨i, rfl⟩
    go_wp2_with fail
    go_ret
    exact ⟨s', rfl, hpl'.out, back.out _ _ i.h.sep⟩

set_option maxHeartbeats 4000000 in
theorem do_write0 {W0 w : World} {L : List Item} {j k d r : Nat} {s : St} (h : Sep W0 w L) (hj : L[j]? = some (diskI d s)) (hk : L[k]? = some (refI r s)) (jk : j ≠ k) (hpl : s.pend.length + 1 < 1048576) (K I T P : Int) (S : ByteArray) (A : Option Addr) (m c : Nat)
    (hS : S.size ≤ maxLen) (hI : (Lit.int .i64 I).wf = true) (hq : bits .and .i64 K 7 = 0) :
    Calls Try.prog 9 #[.pointer (some ⟨d, 0, none⟩), .pointer (some ⟨r, 0, none⟩), .agg #[.int .i64 K, .int .i64 I, .string S, .slice A m c, .int .i64 T, .int .i64 P]] w fun e w' => ∃ s', e = .returned (.int .i64 1) ∧ s'.pend.length ≤ s.pend.length + 1 ∧ Sep W0 w' ((L.set j (diskI d s')).set k (refI r s')) := by
  obtain ⟨Y, eY⟩ : ∃ Y, Y = S.extract 0 (min (↑S.size : Int) 130).toNat := ⟨_, rfl⟩
  have hY : Y.size ≤ maxLen := by rw [eY]; simp only [ByteArray.size_extract]; omega
  obtain ⟨cd, s', hpl', -, HD, HR⟩ := write_both s I (fullS Y) (by omega)
  have h2 := Lib.hid (h.box 36 #[.int .i64 K, .int .i64 I, .string S, .slice A m c, .int .i64 T, .int .i64 P])
  obtain ⟨L2, M2, M3, hL2, hM2, hM3, hj2, hk2, hn2, hk2', hn2', hj3, hk3, hn3, jn, kn, back⟩ := do_lists (s' := s') (B := w.heap.size) (t := 36) (cs := #[.int .i64 K, .int .i64 I, .string S, .slice A m c, .int .i64 T, .int .i64 P]) hj hk jk
  rw [← hL2] at h2
  replace hM2 := Lib.hid hM2
  replace hM3 := Lib.hid hM3
  replace hj2 := Lib.hid hj2
  replace hk2 := Lib.hid hk2
  replace hn2 := Lib.hid hn2
  replace hk2' := Lib.hid hk2'
  replace hn2' := Lib.hid hn2'
  replace hj3 := Lib.hid hj3
  replace hk3 := Lib.hid hk3
  replace hn3 := Lib.hid hn3
  replace jn := Lib.hid jn
  replace kn := Lib.hid kn
  replace back := Lib.hid back
  clear hL2
  obtain ⟨x, cr, HDr, HRr⟩ := read_both s' I (by omega)
  replace HDr := Lib.hid HDr
  replace HRr := Lib.hid HRr
  replace hpl' := Lib.hid hpl'
  have HF := Lib.hid (fun w0 => full_any Y w0 hY)
  obtain ⟨X, hX⟩ : ∃ X, X = fullS Y := ⟨_, rfl⟩
  rw [← hX] at HF HD HR
  replace HD := Lib.hid HD
  replace HR := Lib.hid HR
  go_enter Try.func9, Try.ntmps9
  go_wp2_with fail
  rw [← eY]
  refine FreeC.wp_freeC [(fun _ u => u = .pointer (some ⟨d, 0, none⟩)),
    (fun _ u => u = .pointer (some ⟨w.heap.size, 1, none⟩)),
    (fun _ u => u = .int .i64 I),
    (fun _ u => u = .string Y),
    (fun _ u => u = .string X),
    (fun _ u => u = .int .i64 cd),
    (fun _ u => u = .pointer (some ⟨r, 0, none⟩)),
    (fun _ u => u = .pointer (some ⟨w.heap.size, 1, none⟩)),
    (fun _ u => u = .int .i64 I),
    (fun _ u => u = .string Y),
    (fun _ u => u = .string X),
    (fun _ u => u = .int .i64 cd),
    (fun _ u => u = .bool false)] (DoC 5 11 W0 L2 j k L.length d r w.heap.size s s' 36 #[.int .i64 K, .int .i64 I, .string S, .slice A m c, .int .i64 T, .int .i64 P]) (by kernel_rfl) (by kernel_rfl) ⟨(show Sep W0 _ (turned L2 j k d r s' false false) from h2.out.drew), hj2.out, hk2.out, hn2.out, jk, jn.out, kn.out, by simp⟩ ?_ ?_
  · have pm : ∀ p ∈ ([(fun _ u => u = .pointer (some ⟨d, 0, none⟩)),
    (fun _ u => u = .pointer (some ⟨w.heap.size, 1, none⟩)),
    (fun _ u => u = .int .i64 I),
    (fun _ u => u = .string Y),
    (fun _ u => u = .string X),
    (fun _ u => u = .int .i64 cd),
    (fun _ u => u = .pointer (some ⟨r, 0, none⟩)),
    (fun _ u => u = .pointer (some ⟨w.heap.size, 1, none⟩)),
    (fun _ u => u = .int .i64 I),
    (fun _ u => u = .string Y),
    (fun _ u => u = .string X),
    (fun _ u => u = .int .i64 cd),
    (fun _ u => u = .bool false)] : List (World → Value → Prop)), ∀ (w w' : World) (u : Value), p w u → p w' u := by
      intro p hp w w' u hu
      simp only [List.mem_cons, List.not_mem_nil, or_false] at hp
      rcases hp with rfl | rfl | rfl | rfl | rfl | rfl | rfl | rfl | rfl | rfl | rfl | rfl | rfl <;> exact hu
    refine ⟨?_, ?_, ?_, ?_, ?_, ?_, ?_, ?_, ?_, ?_, ?_, ?_, ?_, trivial⟩
    · intro listed AA W1 hA hno hr KK hK
      have e0 : AA.tmps[0]?.getD undef = .pointer (some ⟨d, 0, none⟩) := slot_is ((hA.kept 0 (Free.not_dst (by kernel_rfl))).trans rfl)
      simp [go_sem, e0]
      exact hK _ _ (hA.c.keep (by decide) (by decide)) rfl (fun _ _ _ _ h => h)
    · intro listed AA W1 hA hno hr KK hK
      have e5 : AA.tmps[5]?.getD undef = .pointer (some ⟨w.heap.size, 0, none⟩) := slot_is ((hA.kept 5 (Free.not_dst (by kernel_rfl))).trans rfl)
      simp [go_sem, e5]
      exact hK _ _ (hA.c.keep (by decide) (by decide)) rfl (fun _ _ _ _ h => h)
    · intro listed AA W1 hA hno hr KK hK
      have e27 : AA.tmps[27]?.getD undef = .pointer (some ⟨w.heap.size, 1, none⟩) := slot_is (hA.val 1 _ rfl (hr ⟨1, .data⟩ (by simp) rfl))
      have c := hA.c.box1 rfl
      simp [go_sem, e27, c]
      exact hK _ _ (hA.c.keep (by decide) (by decide)) rfl (fun _ _ _ _ h => h)
    · intro listed AA W1 hA hno hr KK hK
      have e7 : AA.tmps[7]?.getD undef = .string Y := slot_is ((hA.kept 7 (Free.not_dst (by kernel_rfl))).trans rfl)
      simp [go_sem, e7]
      exact hK _ _ (hA.c.keep (by decide) (by decide)) rfl (fun _ _ _ _ h => h)
    · intro listed AA W1 hA hno hr KK hK
      have e29 : AA.tmps[29]?.getD undef = .string Y := slot_is (hA.val 3 _ rfl (hr ⟨3, .data⟩ (by simp) rfl))
      simp [go_sem, e29]
      refine (HF.out _).mono ?_
      rintro e' w' ⟨rfl, rfl⟩
      exact hK _ _ (hA.c.keep (by decide) (by decide)) rfl (fun _ _ _ _ h => h)
    · intro listed AA W1 hA hno hr KK hK
      have e26 : AA.tmps[26]?.getD undef = .pointer (some ⟨d, 0, none⟩) := slot_is (hA.val 0 _ rfl (hr ⟨0, .data⟩ (by simp) rfl))
      have e28 : AA.tmps[28]?.getD undef = .int .i64 I := slot_is (hA.val 2 _ rfl (hr ⟨2, .data⟩ (by simp) rfl))
      have e30 : AA.tmps[30]?.getD undef = .string X := slot_is (hA.val 4 _ rfl (hr ⟨4, .data⟩ (by simp) rfl))
      simp [go_sem, e26, e28, e30]
      refine (hA.c.step5 (a' := AA) (getD_no hno) HD.out).mono ?_
      rintro e' w' ⟨rfl, hs⟩
      exact hK _ _ hs.any rfl (fun j u _ _ hv => V_mono (fun p hp u hu => pm p hp _ _ u hu) j u hv)
    · intro listed AA W1 hA hno hr KK hK
      have e1 : AA.tmps[1]?.getD undef = .pointer (some ⟨r, 0, none⟩) := slot_is ((hA.kept 1 (Free.not_dst (by kernel_rfl))).trans rfl)
      simp [go_sem, e1]
      exact hK _ _ (hA.c.keep (by decide) (by decide)) rfl (fun _ _ _ _ h => h)
    · intro listed AA W1 hA hno hr KK hK
      have e5 : AA.tmps[5]?.getD undef = .pointer (some ⟨w.heap.size, 0, none⟩) := slot_is ((hA.kept 5 (Free.not_dst (by kernel_rfl))).trans rfl)
      simp [go_sem, e5]
      exact hK _ _ (hA.c.keep (by decide) (by decide)) rfl (fun _ _ _ _ h => h)
    · intro listed AA W1 hA hno hr KK hK
      have e33 : AA.tmps[33]?.getD undef = .pointer (some ⟨w.heap.size, 1, none⟩) := slot_is (hA.val 7 _ rfl (hr ⟨7, .data⟩ (by simp) rfl))
      have c := hA.c.box1 rfl
      simp [go_sem, e33, c]
      exact hK _ _ (hA.c.keep (by decide) (by decide)) rfl (fun _ _ _ _ h => h)
    · intro listed AA W1 hA hno hr KK hK
      have e7 : AA.tmps[7]?.getD undef = .string Y := slot_is ((hA.kept 7 (Free.not_dst (by kernel_rfl))).trans rfl)
      simp [go_sem, e7]
      exact hK _ _ (hA.c.keep (by decide) (by decide)) rfl (fun _ _ _ _ h => h)
    · intro listed AA W1 hA hno hr KK hK
      have e35 : AA.tmps[35]?.getD undef = .string Y := slot_is (hA.val 9 _ rfl (hr ⟨9, .data⟩ (by simp) rfl))
      simp [go_sem, e35]
      refine (HF.out _).mono ?_
      rintro e' w' ⟨rfl, rfl⟩
      exact hK _ _ (hA.c.keep (by decide) (by decide)) rfl (fun _ _ _ _ h => h)
    · intro listed AA W1 hA hno hr KK hK
      have e32 : AA.tmps[32]?.getD undef = .pointer (some ⟨r, 0, none⟩) := slot_is (hA.val 6 _ rfl (hr ⟨6, .data⟩ (by simp) rfl))
      have e34 : AA.tmps[34]?.getD undef = .int .i64 I := slot_is (hA.val 8 _ rfl (hr ⟨8, .data⟩ (by simp) rfl))
      have e36 : AA.tmps[36]?.getD undef = .string X := slot_is (hA.val 10 _ rfl (hr ⟨10, .data⟩ (by simp) rfl))
      simp [go_sem, e32, e34, e36]
      refine (hA.c.step11 (a' := AA) (getD_no hno) HR.out).mono ?_
      rintro e' w' ⟨rfl, hs⟩
      exact hK _ _ hs.any rfl (fun j u _ _ hv => V_mono (fun p hp u hu => pm p hp _ _ u hu) j u hv)
    · intro listed AA W1 hA hno hr KK hK
      have e31 : AA.tmps[31]?.getD undef = .int .i64 cd := slot_is (hA.val 5 _ rfl (hr ⟨5, .data⟩ (by simp) rfl))
      have e37 : AA.tmps[37]?.getD undef = .int .i64 cd := slot_is (hA.val 11 _ rfl (hr ⟨11, .data⟩ (by simp) rfl))
      simp [go_sem, e31, e37]
      exact hK _ _ (hA.c.keep (by decide) (by decide)) rfl (fun _ _ _ _ h => h)
  · intro AA W1 hA
    have s38 := hA.val 12 _ rfl rfl
    have s0 := hA.kept 0 (Free.not_dst (by kernel_rfl))
    have s1 := hA.kept 1 (Free.not_dst (by kernel_rfl))
    have s5 := hA.kept 5 (Free.not_dst (by kernel_rfl))
    have hB : Sep W0 W1 M3 := by
      have := hA.c.sep
      rw [hM3.out, hM2.out]
      simpa [turned] using this
    replace hB := Lib.hid hB
    have hsz := hA.slots
    have hde := hA.defers
    clear hA
    obtain ⟨tm, de⟩ := AA
    simp only [Free.got] at s38 hsz hde
    obtain ⟨y, hy, e⟩ := arrF129 hsz
    have t38 : y 38 = .bool false := (hy _).symm.trans s38
    have t0 : y 0 = .pointer (some ⟨d, 0, none⟩) := (hy _).symm.trans s0
    have t1 : y 1 = .pointer (some ⟨r, 0, none⟩) := (hy _).symm.trans s1
    have t5 : y 5 = .pointer (some ⟨w.heap.size, 0, none⟩) := (hy _).symm.trans s5
    rw [t0, t1, t5, t38] at e
    clear hy s38 s0 s1 s5 hsz t0 t1 t5 t38
    subst e hde
    have c9 : W1.cell? ⟨w.heap.size, 1, none⟩ = some (.int .i64 I) := (cells_s hB.out hn3.out).cell 1
    go_wp2_with fail
    refine (HDr.out W0 _ _ j d hB.out (hj3.out)).mono ?_
    rintro e w1 ⟨rfl, h3⟩
    rw [set_same hj3.out] at h3
    replace h3 := Lib.hid h3
    have c1 : w1.cell? ⟨w.heap.size, 1, none⟩ = some (.int .i64 I) := (cells_s h3.out hn3.out).cell 1
    go_wp2_with fail
    refine (HRr.out W0 _ _ k r h3.out (hk3.out)).mono ?_
    rintro e w2 ⟨rfl, h4⟩
    rw [set_same hk3.out] at h4
    replace h4 := Lib.hid h4
    clear c1
    go_wp2_with fail
    obtain ⟨Al, cl, n, Aw, cw, p, hT⟩ := doT_of h4.out hj3.out hk3.out
    replace hT := Lib.hid hT
    have hne : Nonempty (In (DoT W0 M3 j d r s' Al n cl Aw p cw)) := ⟨⟨_, hT.out⟩⟩
    have i0 : ∀ i : In (DoT W0 M3 j d r s' Al n cl Aw p cw), i.W.cell? ⟨r, 0, none⟩ = some (.slice Al n cl) := fun i => i.h.c0
    have i1 : ∀ i : In (DoT W0 M3 j d r s' Al n cl Aw p cw), i.W.cell? ⟨r, 1, none⟩ = some (.slice Aw p cw) := fun i => i.h.c1
    refine region_class (DoT W0 M3 j d r s' Al n cl Aw p cw) (by kernel_rfl) (by kernel_rfl) hT.out.drawn ?_
    repeat (go_big_quiet_step (first
      | (go_at_call 18; with_reducible exact class_call _ (fun hi => pend_t hi))
      | (go_at_call 20; with_reducible exact class_call _ (fun hi => len_t hi))))
    refine wpQuiet_nil ?_
    rintro _ ⟨i, rfl⟩
    go_wp2_with fail
    go_ret
    exact ⟨s', rfl, hpl'.out, back.out _ _ i.h.sep⟩

set_option maxHeartbeats 4000000 in
theorem do_write1 {W0 w : World} {L : List Item} {j k d r : Nat} {s : St} (h : Sep W0 w L) (hj : L[j]? = some (diskI d s)) (hk : L[k]? = some (refI r s)) (jk : j ≠ k) (hpl : s.pend.length + 1 < 1048576) (K I T P : Int) (S : ByteArray) (A : Option Addr) (m c : Nat)
    (hS : S.size ≤ maxLen) (hI : (Lit.int .i64 I).wf = true) (hq : bits .and .i64 K 7 = 1) :
    Calls Try.prog 9 #[.pointer (some ⟨d, 0, none⟩), .pointer (some ⟨r, 0, none⟩), .agg #[.int .i64 K, .int .i64 I, .string S, .slice A m c, .int .i64 T, .int .i64 P]] w fun e w' => ∃ s', e = .returned (.int .i64 1) ∧ s'.pend.length ≤ s.pend.length + 1 ∧ Sep W0 w' ((L.set j (diskI d s')).set k (refI r s')) := by
  obtain ⟨Y, eY⟩ : ∃ Y, Y = S.extract 0 (min (↑S.size : Int) 130).toNat := ⟨_, rfl⟩
  have hY : Y.size ≤ maxLen := by rw [eY]; simp only [ByteArray.size_extract]; omega
  obtain ⟨cd, s', hpl', -, HD, HR⟩ := write_both s I (fullS Y) (by omega)
  have h2 := Lib.hid (h.box 36 #[.int .i64 K, .int .i64 I, .string S, .slice A m c, .int .i64 T, .int .i64 P])
  obtain ⟨L2, M2, M3, hL2, hM2, hM3, hj2, hk2, hn2, hk2', hn2', hj3, hk3, hn3, jn, kn, back⟩ := do_lists (s' := s') (B := w.heap.size) (t := 36) (cs := #[.int .i64 K, .int .i64 I, .string S, .slice A m c, .int .i64 T, .int .i64 P]) hj hk jk
  rw [← hL2] at h2
  replace hM2 := Lib.hid hM2
  replace hM3 := Lib.hid hM3
  replace hj2 := Lib.hid hj2
  replace hk2 := Lib.hid hk2
  replace hn2 := Lib.hid hn2
  replace hk2' := Lib.hid hk2'
  replace hn2' := Lib.hid hn2'
  replace hj3 := Lib.hid hj3
  replace hk3 := Lib.hid hk3
  replace hn3 := Lib.hid hn3
  replace jn := Lib.hid jn
  replace kn := Lib.hid kn
  replace back := Lib.hid back
  clear hL2
  obtain ⟨x, cr, HDr, HRr⟩ := read_both s' I (by omega)
  replace HDr := Lib.hid HDr
  replace HRr := Lib.hid HRr
  replace hpl' := Lib.hid hpl'
  have HF := Lib.hid (fun w0 => full_any Y w0 hY)
  obtain ⟨X, hX⟩ : ∃ X, X = fullS Y := ⟨_, rfl⟩
  rw [← hX] at HF HD HR
  replace HD := Lib.hid HD
  replace HR := Lib.hid HR
  go_enter Try.func9, Try.ntmps9
  go_wp2_with fail
  rw [← eY]
  refine FreeC.wp_freeC [(fun _ u => u = .pointer (some ⟨d, 0, none⟩)),
    (fun _ u => u = .pointer (some ⟨w.heap.size, 1, none⟩)),
    (fun _ u => u = .int .i64 I),
    (fun _ u => u = .string Y),
    (fun _ u => u = .string X),
    (fun _ u => u = .int .i64 cd),
    (fun _ u => u = .pointer (some ⟨r, 0, none⟩)),
    (fun _ u => u = .pointer (some ⟨w.heap.size, 1, none⟩)),
    (fun _ u => u = .int .i64 I),
    (fun _ u => u = .string Y),
    (fun _ u => u = .string X),
    (fun _ u => u = .int .i64 cd),
    (fun _ u => u = .bool false)] (DoC 5 11 W0 L2 j k L.length d r w.heap.size s s' 36 #[.int .i64 K, .int .i64 I, .string S, .slice A m c, .int .i64 T, .int .i64 P]) (by kernel_rfl) (by kernel_rfl) ⟨(show Sep W0 _ (turned L2 j k d r s' false false) from h2.out.drew), hj2.out, hk2.out, hn2.out, jk, jn.out, kn.out, by simp⟩ ?_ ?_
  · have pm : ∀ p ∈ ([(fun _ u => u = .pointer (some ⟨d, 0, none⟩)),
    (fun _ u => u = .pointer (some ⟨w.heap.size, 1, none⟩)),
    (fun _ u => u = .int .i64 I),
    (fun _ u => u = .string Y),
    (fun _ u => u = .string X),
    (fun _ u => u = .int .i64 cd),
    (fun _ u => u = .pointer (some ⟨r, 0, none⟩)),
    (fun _ u => u = .pointer (some ⟨w.heap.size, 1, none⟩)),
    (fun _ u => u = .int .i64 I),
    (fun _ u => u = .string Y),
    (fun _ u => u = .string X),
    (fun _ u => u = .int .i64 cd),
    (fun _ u => u = .bool false)] : List (World → Value → Prop)), ∀ (w w' : World) (u : Value), p w u → p w' u := by
      intro p hp w w' u hu
      simp only [List.mem_cons, List.not_mem_nil, or_false] at hp
      rcases hp with rfl | rfl | rfl | rfl | rfl | rfl | rfl | rfl | rfl | rfl | rfl | rfl | rfl <;> exact hu
    refine ⟨?_, ?_, ?_, ?_, ?_, ?_, ?_, ?_, ?_, ?_, ?_, ?_, ?_, trivial⟩
    · intro listed AA W1 hA hno hr KK hK
      have e0 : AA.tmps[0]?.getD undef = .pointer (some ⟨d, 0, none⟩) := slot_is ((hA.kept 0 (Free.not_dst (by kernel_rfl))).trans rfl)
      simp [go_sem, e0]
      exact hK _ _ (hA.c.keep (by decide) (by decide)) rfl (fun _ _ _ _ h => h)
    · intro listed AA W1 hA hno hr KK hK
      have e5 : AA.tmps[5]?.getD undef = .pointer (some ⟨w.heap.size, 0, none⟩) := slot_is ((hA.kept 5 (Free.not_dst (by kernel_rfl))).trans rfl)
      simp [go_sem, e5]
      exact hK _ _ (hA.c.keep (by decide) (by decide)) rfl (fun _ _ _ _ h => h)
    · intro listed AA W1 hA hno hr KK hK
      have e27 : AA.tmps[27]?.getD undef = .pointer (some ⟨w.heap.size, 1, none⟩) := slot_is (hA.val 1 _ rfl (hr ⟨1, .data⟩ (by simp) rfl))
      have c := hA.c.box1 rfl
      simp [go_sem, e27, c]
      exact hK _ _ (hA.c.keep (by decide) (by decide)) rfl (fun _ _ _ _ h => h)
    · intro listed AA W1 hA hno hr KK hK
      have e7 : AA.tmps[7]?.getD undef = .string Y := slot_is ((hA.kept 7 (Free.not_dst (by kernel_rfl))).trans rfl)
      simp [go_sem, e7]
      exact hK _ _ (hA.c.keep (by decide) (by decide)) rfl (fun _ _ _ _ h => h)
    · intro listed AA W1 hA hno hr KK hK
      have e29 : AA.tmps[29]?.getD undef = .string Y := slot_is (hA.val 3 _ rfl (hr ⟨3, .data⟩ (by simp) rfl))
      simp [go_sem, e29]
      refine (HF.out _).mono ?_
      rintro e' w' ⟨rfl, rfl⟩
      exact hK _ _ (hA.c.keep (by decide) (by decide)) rfl (fun _ _ _ _ h => h)
    · intro listed AA W1 hA hno hr KK hK
      have e26 : AA.tmps[26]?.getD undef = .pointer (some ⟨d, 0, none⟩) := slot_is (hA.val 0 _ rfl (hr ⟨0, .data⟩ (by simp) rfl))
      have e28 : AA.tmps[28]?.getD undef = .int .i64 I := slot_is (hA.val 2 _ rfl (hr ⟨2, .data⟩ (by simp) rfl))
      have e30 : AA.tmps[30]?.getD undef = .string X := slot_is (hA.val 4 _ rfl (hr ⟨4, .data⟩ (by simp) rfl))
      simp [go_sem, e26, e28, e30]
      refine (hA.c.step5 (a' := AA) (getD_no hno) HD.out).mono ?_
      rintro e' w' ⟨rfl, hs⟩
      exact hK _ _ hs.any rfl (fun j u _ _ hv => V_mono (fun p hp u hu => pm p hp _ _ u hu) j u hv)
    · intro listed AA W1 hA hno hr KK hK
      have e1 : AA.tmps[1]?.getD undef = .pointer (some ⟨r, 0, none⟩) := slot_is ((hA.kept 1 (Free.not_dst (by kernel_rfl))).trans rfl)
      simp [go_sem, e1]
      exact hK _ _ (hA.c.keep (by decide) (by decide)) rfl (fun _ _ _ _ h => h)
    · intro listed AA W1 hA hno hr KK hK
      have e5 : AA.tmps[5]?.getD undef = .pointer (some ⟨w.heap.size, 0, none⟩) := slot_is ((hA.kept 5 (Free.not_dst (by kernel_rfl))).trans rfl)
      simp [go_sem, e5]
      exact hK _ _ (hA.c.keep (by decide) (by decide)) rfl (fun _ _ _ _ h => h)
    · intro listed AA W1 hA hno hr KK hK
      have e33 : AA.tmps[33]?.getD undef = .pointer (some ⟨w.heap.size, 1, none⟩) := slot_is (hA.val 7 _ rfl (hr ⟨7, .data⟩ (by simp) rfl))
      have c := hA.c.box1 rfl
      simp [go_sem, e33, c]
      exact hK _ _ (hA.c.keep (by decide) (by decide)) rfl (fun _ _ _ _ h => h)
    · intro listed AA W1 hA hno hr KK hK
      have e7 : AA.tmps[7]?.getD undef = .string Y := slot_is ((hA.kept 7 (Free.not_dst (by kernel_rfl))).trans rfl)
      simp [go_sem, e7]
      exact hK _ _ (hA.c.keep (by decide) (by decide)) rfl (fun _ _ _ _ h => h)
    · intro listed AA W1 hA hno hr KK hK
      have e35 : AA.tmps[35]?.getD undef = .string Y := slot_is (hA.val 9 _ rfl (hr ⟨9, .data⟩ (by simp) rfl))
      simp [go_sem, e35]
      refine (HF.out _).mono ?_
      rintro e' w' ⟨rfl, rfl⟩
      exact hK _ _ (hA.c.keep (by decide) (by decide)) rfl (fun _ _ _ _ h => h)
    · intro listed AA W1 hA hno hr KK hK
      have e32 : AA.tmps[32]?.getD undef = .pointer (some ⟨r, 0, none⟩) := slot_is (hA.val 6 _ rfl (hr ⟨6, .data⟩ (by simp) rfl))
      have e34 : AA.tmps[34]?.getD undef = .int .i64 I := slot_is (hA.val 8 _ rfl (hr ⟨8, .data⟩ (by simp) rfl))
      have e36 : AA.tmps[36]?.getD undef = .string X := slot_is (hA.val 10 _ rfl (hr ⟨10, .data⟩ (by simp) rfl))
      simp [go_sem, e32, e34, e36]
      refine (hA.c.step11 (a' := AA) (getD_no hno) HR.out).mono ?_
      rintro e' w' ⟨rfl, hs⟩
      exact hK _ _ hs.any rfl (fun j u _ _ hv => V_mono (fun p hp u hu => pm p hp _ _ u hu) j u hv)
    · intro listed AA W1 hA hno hr KK hK
      have e31 : AA.tmps[31]?.getD undef = .int .i64 cd := slot_is (hA.val 5 _ rfl (hr ⟨5, .data⟩ (by simp) rfl))
      have e37 : AA.tmps[37]?.getD undef = .int .i64 cd := slot_is (hA.val 11 _ rfl (hr ⟨11, .data⟩ (by simp) rfl))
      simp [go_sem, e31, e37]
      exact hK _ _ (hA.c.keep (by decide) (by decide)) rfl (fun _ _ _ _ h => h)
  · intro AA W1 hA
    have s38 := hA.val 12 _ rfl rfl
    have s0 := hA.kept 0 (Free.not_dst (by kernel_rfl))
    have s1 := hA.kept 1 (Free.not_dst (by kernel_rfl))
    have s5 := hA.kept 5 (Free.not_dst (by kernel_rfl))
    have hB : Sep W0 W1 M3 := by
      have := hA.c.sep
      rw [hM3.out, hM2.out]
      simpa [turned] using this
    replace hB := Lib.hid hB
    have hsz := hA.slots
    have hde := hA.defers
    clear hA
    obtain ⟨tm, de⟩ := AA
    simp only [Free.got] at s38 hsz hde
    obtain ⟨y, hy, e⟩ := arrF129 hsz
    have t38 : y 38 = .bool false := (hy _).symm.trans s38
    have t0 : y 0 = .pointer (some ⟨d, 0, none⟩) := (hy _).symm.trans s0
    have t1 : y 1 = .pointer (some ⟨r, 0, none⟩) := (hy _).symm.trans s1
    have t5 : y 5 = .pointer (some ⟨w.heap.size, 0, none⟩) := (hy _).symm.trans s5
    rw [t0, t1, t5, t38] at e
    clear hy s38 s0 s1 s5 hsz t0 t1 t5 t38
    subst e hde
    have c9 : W1.cell? ⟨w.heap.size, 1, none⟩ = some (.int .i64 I) := (cells_s hB.out hn3.out).cell 1
    go_wp2_with fail
    refine (HDr.out W0 _ _ j d hB.out (hj3.out)).mono ?_
    rintro e w1 ⟨rfl, h3⟩
    rw [set_same hj3.out] at h3
    replace h3 := Lib.hid h3
    have c1 : w1.cell? ⟨w.heap.size, 1, none⟩ = some (.int .i64 I) := (cells_s h3.out hn3.out).cell 1
    go_wp2_with fail
    refine (HRr.out W0 _ _ k r h3.out (hk3.out)).mono ?_
    rintro e w2 ⟨rfl, h4⟩
    rw [set_same hk3.out] at h4
    replace h4 := Lib.hid h4
    clear c1
    go_wp2_with fail
    obtain ⟨Al, cl, n, Aw, cw, p, hT⟩ := doT_of h4.out hj3.out hk3.out
    replace hT := Lib.hid hT
    have hne : Nonempty (In (DoT W0 M3 j d r s' Al n cl Aw p cw)) := ⟨⟨_, hT.out⟩⟩
    have i0 : ∀ i : In (DoT W0 M3 j d r s' Al n cl Aw p cw), i.W.cell? ⟨r, 0, none⟩ = some (.slice Al n cl) := fun i => i.h.c0
    have i1 : ∀ i : In (DoT W0 M3 j d r s' Al n cl Aw p cw), i.W.cell? ⟨r, 1, none⟩ = some (.slice Aw p cw) := fun i => i.h.c1
    refine region_class (DoT W0 M3 j d r s' Al n cl Aw p cw) (by kernel_rfl) (by kernel_rfl) hT.out.drawn ?_
    repeat (go_big_quiet_step (first
      | (go_at_call 18; with_reducible exact class_call _ (fun hi => pend_t hi))
      | (go_at_call 20; with_reducible exact class_call _ (fun hi => len_t hi))))
    refine wpQuiet_nil ?_
    rintro _ ⟨i, rfl⟩
    go_wp2_with fail
    go_ret
    exact ⟨s', rfl, hpl'.out, back.out _ _ i.h.sep⟩

set_option maxHeartbeats 4000000 in
theorem do_write2 {W0 w : World} {L : List Item} {j k d r : Nat} {s : St} (h : Sep W0 w L) (hj : L[j]? = some (diskI d s)) (hk : L[k]? = some (refI r s)) (jk : j ≠ k) (hpl : s.pend.length + 1 < 1048576) (K I T P : Int) (S : ByteArray) (A : Option Addr) (m c : Nat)
    (hS : S.size ≤ maxLen) (hI : (Lit.int .i64 I).wf = true) (hq : bits .and .i64 K 7 = 2) :
    Calls Try.prog 9 #[.pointer (some ⟨d, 0, none⟩), .pointer (some ⟨r, 0, none⟩), .agg #[.int .i64 K, .int .i64 I, .string S, .slice A m c, .int .i64 T, .int .i64 P]] w fun e w' => ∃ s', e = .returned (.int .i64 1) ∧ s'.pend.length ≤ s.pend.length + 1 ∧ Sep W0 w' ((L.set j (diskI d s')).set k (refI r s')) := by
  obtain ⟨Y, eY⟩ : ∃ Y, Y = S.extract 0 (min (↑S.size : Int) 130).toNat := ⟨_, rfl⟩
  have hY : Y.size ≤ maxLen := by rw [eY]; simp only [ByteArray.size_extract]; omega
  obtain ⟨cd, s', hpl', -, HD, HR⟩ := write_both s I (fullS Y) (by omega)
  have h2 := Lib.hid (h.box 36 #[.int .i64 K, .int .i64 I, .string S, .slice A m c, .int .i64 T, .int .i64 P])
  obtain ⟨L2, M2, M3, hL2, hM2, hM3, hj2, hk2, hn2, hk2', hn2', hj3, hk3, hn3, jn, kn, back⟩ := do_lists (s' := s') (B := w.heap.size) (t := 36) (cs := #[.int .i64 K, .int .i64 I, .string S, .slice A m c, .int .i64 T, .int .i64 P]) hj hk jk
  rw [← hL2] at h2
  replace hM2 := Lib.hid hM2
  replace hM3 := Lib.hid hM3
  replace hj2 := Lib.hid hj2
  replace hk2 := Lib.hid hk2
  replace hn2 := Lib.hid hn2
  replace hk2' := Lib.hid hk2'
  replace hn2' := Lib.hid hn2'
  replace hj3 := Lib.hid hj3
  replace hk3 := Lib.hid hk3
  replace hn3 := Lib.hid hn3
  replace jn := Lib.hid jn
  replace kn := Lib.hid kn
  replace back := Lib.hid back
  clear hL2
  obtain ⟨x, cr, HDr, HRr⟩ := read_both s' I (by omega)
  replace HDr := Lib.hid HDr
  replace HRr := Lib.hid HRr
  replace hpl' := Lib.hid hpl'
  have HF := Lib.hid (fun w0 => full_any Y w0 hY)
  obtain ⟨X, hX⟩ : ∃ X, X = fullS Y := ⟨_, rfl⟩
  rw [← hX] at HF HD HR
  replace HD := Lib.hid HD
  replace HR := Lib.hid HR
  go_enter Try.func9, Try.ntmps9
  go_wp2_with fail
  rw [← eY]
  refine FreeC.wp_freeC [(fun _ u => u = .pointer (some ⟨d, 0, none⟩)),
    (fun _ u => u = .pointer (some ⟨w.heap.size, 1, none⟩)),
    (fun _ u => u = .int .i64 I),
    (fun _ u => u = .string Y),
    (fun _ u => u = .string X),
    (fun _ u => u = .int .i64 cd),
    (fun _ u => u = .pointer (some ⟨r, 0, none⟩)),
    (fun _ u => u = .pointer (some ⟨w.heap.size, 1, none⟩)),
    (fun _ u => u = .int .i64 I),
    (fun _ u => u = .string Y),
    (fun _ u => u = .string X),
    (fun _ u => u = .int .i64 cd),
    (fun _ u => u = .bool false)] (DoC 5 11 W0 L2 j k L.length d r w.heap.size s s' 36 #[.int .i64 K, .int .i64 I, .string S, .slice A m c, .int .i64 T, .int .i64 P]) (by kernel_rfl) (by kernel_rfl) ⟨(show Sep W0 _ (turned L2 j k d r s' false false) from h2.out.drew), hj2.out, hk2.out, hn2.out, jk, jn.out, kn.out, by simp⟩ ?_ ?_
  · have pm : ∀ p ∈ ([(fun _ u => u = .pointer (some ⟨d, 0, none⟩)),
    (fun _ u => u = .pointer (some ⟨w.heap.size, 1, none⟩)),
    (fun _ u => u = .int .i64 I),
    (fun _ u => u = .string Y),
    (fun _ u => u = .string X),
    (fun _ u => u = .int .i64 cd),
    (fun _ u => u = .pointer (some ⟨r, 0, none⟩)),
    (fun _ u => u = .pointer (some ⟨w.heap.size, 1, none⟩)),
    (fun _ u => u = .int .i64 I),
    (fun _ u => u = .string Y),
    (fun _ u => u = .string X),
    (fun _ u => u = .int .i64 cd),
    (fun _ u => u = .bool false)] : List (World → Value → Prop)), ∀ (w w' : World) (u : Value), p w u → p w' u := by
      intro p hp w w' u hu
      simp only [List.mem_cons, List.not_mem_nil, or_false] at hp
      rcases hp with rfl | rfl | rfl | rfl | rfl | rfl | rfl | rfl | rfl | rfl | rfl | rfl | rfl <;> exact hu
    refine ⟨?_, ?_, ?_, ?_, ?_, ?_, ?_, ?_, ?_, ?_, ?_, ?_, ?_, trivial⟩
    · intro listed AA W1 hA hno hr KK hK
      have e0 : AA.tmps[0]?.getD undef = .pointer (some ⟨d, 0, none⟩) := slot_is ((hA.kept 0 (Free.not_dst (by kernel_rfl))).trans rfl)
      simp [go_sem, e0]
      exact hK _ _ (hA.c.keep (by decide) (by decide)) rfl (fun _ _ _ _ h => h)
    · intro listed AA W1 hA hno hr KK hK
      have e5 : AA.tmps[5]?.getD undef = .pointer (some ⟨w.heap.size, 0, none⟩) := slot_is ((hA.kept 5 (Free.not_dst (by kernel_rfl))).trans rfl)
      simp [go_sem, e5]
      exact hK _ _ (hA.c.keep (by decide) (by decide)) rfl (fun _ _ _ _ h => h)
    · intro listed AA W1 hA hno hr KK hK
      have e27 : AA.tmps[27]?.getD undef = .pointer (some ⟨w.heap.size, 1, none⟩) := slot_is (hA.val 1 _ rfl (hr ⟨1, .data⟩ (by simp) rfl))
      have c := hA.c.box1 rfl
      simp [go_sem, e27, c]
      exact hK _ _ (hA.c.keep (by decide) (by decide)) rfl (fun _ _ _ _ h => h)
    · intro listed AA W1 hA hno hr KK hK
      have e7 : AA.tmps[7]?.getD undef = .string Y := slot_is ((hA.kept 7 (Free.not_dst (by kernel_rfl))).trans rfl)
      simp [go_sem, e7]
      exact hK _ _ (hA.c.keep (by decide) (by decide)) rfl (fun _ _ _ _ h => h)
    · intro listed AA W1 hA hno hr KK hK
      have e29 : AA.tmps[29]?.getD undef = .string Y := slot_is (hA.val 3 _ rfl (hr ⟨3, .data⟩ (by simp) rfl))
      simp [go_sem, e29]
      refine (HF.out _).mono ?_
      rintro e' w' ⟨rfl, rfl⟩
      exact hK _ _ (hA.c.keep (by decide) (by decide)) rfl (fun _ _ _ _ h => h)
    · intro listed AA W1 hA hno hr KK hK
      have e26 : AA.tmps[26]?.getD undef = .pointer (some ⟨d, 0, none⟩) := slot_is (hA.val 0 _ rfl (hr ⟨0, .data⟩ (by simp) rfl))
      have e28 : AA.tmps[28]?.getD undef = .int .i64 I := slot_is (hA.val 2 _ rfl (hr ⟨2, .data⟩ (by simp) rfl))
      have e30 : AA.tmps[30]?.getD undef = .string X := slot_is (hA.val 4 _ rfl (hr ⟨4, .data⟩ (by simp) rfl))
      simp [go_sem, e26, e28, e30]
      refine (hA.c.step5 (a' := AA) (getD_no hno) HD.out).mono ?_
      rintro e' w' ⟨rfl, hs⟩
      exact hK _ _ hs.any rfl (fun j u _ _ hv => V_mono (fun p hp u hu => pm p hp _ _ u hu) j u hv)
    · intro listed AA W1 hA hno hr KK hK
      have e1 : AA.tmps[1]?.getD undef = .pointer (some ⟨r, 0, none⟩) := slot_is ((hA.kept 1 (Free.not_dst (by kernel_rfl))).trans rfl)
      simp [go_sem, e1]
      exact hK _ _ (hA.c.keep (by decide) (by decide)) rfl (fun _ _ _ _ h => h)
    · intro listed AA W1 hA hno hr KK hK
      have e5 : AA.tmps[5]?.getD undef = .pointer (some ⟨w.heap.size, 0, none⟩) := slot_is ((hA.kept 5 (Free.not_dst (by kernel_rfl))).trans rfl)
      simp [go_sem, e5]
      exact hK _ _ (hA.c.keep (by decide) (by decide)) rfl (fun _ _ _ _ h => h)
    · intro listed AA W1 hA hno hr KK hK
      have e33 : AA.tmps[33]?.getD undef = .pointer (some ⟨w.heap.size, 1, none⟩) := slot_is (hA.val 7 _ rfl (hr ⟨7, .data⟩ (by simp) rfl))
      have c := hA.c.box1 rfl
      simp [go_sem, e33, c]
      exact hK _ _ (hA.c.keep (by decide) (by decide)) rfl (fun _ _ _ _ h => h)
    · intro listed AA W1 hA hno hr KK hK
      have e7 : AA.tmps[7]?.getD undef = .string Y := slot_is ((hA.kept 7 (Free.not_dst (by kernel_rfl))).trans rfl)
      simp [go_sem, e7]
      exact hK _ _ (hA.c.keep (by decide) (by decide)) rfl (fun _ _ _ _ h => h)
    · intro listed AA W1 hA hno hr KK hK
      have e35 : AA.tmps[35]?.getD undef = .string Y := slot_is (hA.val 9 _ rfl (hr ⟨9, .data⟩ (by simp) rfl))
      simp [go_sem, e35]
      refine (HF.out _).mono ?_
      rintro e' w' ⟨rfl, rfl⟩
      exact hK _ _ (hA.c.keep (by decide) (by decide)) rfl (fun _ _ _ _ h => h)
    · intro listed AA W1 hA hno hr KK hK
      have e32 : AA.tmps[32]?.getD undef = .pointer (some ⟨r, 0, none⟩) := slot_is (hA.val 6 _ rfl (hr ⟨6, .data⟩ (by simp) rfl))
      have e34 : AA.tmps[34]?.getD undef = .int .i64 I := slot_is (hA.val 8 _ rfl (hr ⟨8, .data⟩ (by simp) rfl))
      have e36 : AA.tmps[36]?.getD undef = .string X := slot_is (hA.val 10 _ rfl (hr ⟨10, .data⟩ (by simp) rfl))
      simp [go_sem, e32, e34, e36]
      refine (hA.c.step11 (a' := AA) (getD_no hno) HR.out).mono ?_
      rintro e' w' ⟨rfl, hs⟩
      exact hK _ _ hs.any rfl (fun j u _ _ hv => V_mono (fun p hp u hu => pm p hp _ _ u hu) j u hv)
    · intro listed AA W1 hA hno hr KK hK
      have e31 : AA.tmps[31]?.getD undef = .int .i64 cd := slot_is (hA.val 5 _ rfl (hr ⟨5, .data⟩ (by simp) rfl))
      have e37 : AA.tmps[37]?.getD undef = .int .i64 cd := slot_is (hA.val 11 _ rfl (hr ⟨11, .data⟩ (by simp) rfl))
      simp [go_sem, e31, e37]
      exact hK _ _ (hA.c.keep (by decide) (by decide)) rfl (fun _ _ _ _ h => h)
  · intro AA W1 hA
    have s38 := hA.val 12 _ rfl rfl
    have s0 := hA.kept 0 (Free.not_dst (by kernel_rfl))
    have s1 := hA.kept 1 (Free.not_dst (by kernel_rfl))
    have s5 := hA.kept 5 (Free.not_dst (by kernel_rfl))
    have hB : Sep W0 W1 M3 := by
      have := hA.c.sep
      rw [hM3.out, hM2.out]
      simpa [turned] using this
    replace hB := Lib.hid hB
    have hsz := hA.slots
    have hde := hA.defers
    clear hA
    obtain ⟨tm, de⟩ := AA
    simp only [Free.got] at s38 hsz hde
    obtain ⟨y, hy, e⟩ := arrF129 hsz
    have t38 : y 38 = .bool false := (hy _).symm.trans s38
    have t0 : y 0 = .pointer (some ⟨d, 0, none⟩) := (hy _).symm.trans s0
    have t1 : y 1 = .pointer (some ⟨r, 0, none⟩) := (hy _).symm.trans s1
    have t5 : y 5 = .pointer (some ⟨w.heap.size, 0, none⟩) := (hy _).symm.trans s5
    rw [t0, t1, t5, t38] at e
    clear hy s38 s0 s1 s5 hsz t0 t1 t5 t38
    subst e hde
    have c9 : W1.cell? ⟨w.heap.size, 1, none⟩ = some (.int .i64 I) := (cells_s hB.out hn3.out).cell 1
    go_wp2_with fail
    refine (HDr.out W0 _ _ j d hB.out (hj3.out)).mono ?_
    rintro e w1 ⟨rfl, h3⟩
    rw [set_same hj3.out] at h3
    replace h3 := Lib.hid h3
    have c1 : w1.cell? ⟨w.heap.size, 1, none⟩ = some (.int .i64 I) := (cells_s h3.out hn3.out).cell 1
    go_wp2_with fail
    refine (HRr.out W0 _ _ k r h3.out (hk3.out)).mono ?_
    rintro e w2 ⟨rfl, h4⟩
    rw [set_same hk3.out] at h4
    replace h4 := Lib.hid h4
    clear c1
    go_wp2_with fail
    obtain ⟨Al, cl, n, Aw, cw, p, hT⟩ := doT_of h4.out hj3.out hk3.out
    replace hT := Lib.hid hT
    have hne : Nonempty (In (DoT W0 M3 j d r s' Al n cl Aw p cw)) := ⟨⟨_, hT.out⟩⟩
    have i0 : ∀ i : In (DoT W0 M3 j d r s' Al n cl Aw p cw), i.W.cell? ⟨r, 0, none⟩ = some (.slice Al n cl) := fun i => i.h.c0
    have i1 : ∀ i : In (DoT W0 M3 j d r s' Al n cl Aw p cw), i.W.cell? ⟨r, 1, none⟩ = some (.slice Aw p cw) := fun i => i.h.c1
    refine region_class (DoT W0 M3 j d r s' Al n cl Aw p cw) (by kernel_rfl) (by kernel_rfl) hT.out.drawn ?_
    repeat (go_big_quiet_step (first
      | (go_at_call 18; with_reducible exact class_call _ (fun hi => pend_t hi))
      | (go_at_call 20; with_reducible exact class_call _ (fun hi => len_t hi))))
    refine wpQuiet_nil ?_
    rintro _ ⟨i, rfl⟩
    go_wp2_with fail
    go_ret
    exact ⟨s', rfl, hpl'.out, back.out _ _ i.h.sep⟩

end Go.Proofs.Ytoblkjahohlflaa
