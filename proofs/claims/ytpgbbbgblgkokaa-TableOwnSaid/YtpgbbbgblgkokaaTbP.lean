/- Contract of the document's own Right: whether a table may be; no memory that was there is changed. -/
import Derived.Test.YtpgbbbgblgkokaaTbC
namespace Go.Proofs.Ytpgbbbgblgkokaa
open Go.RowKit Go.Lib
set_option linter.unusedVariables false

theorem idx_take {l : List Int} {x : Int} {i : Nat} (h : x ∈ l.take i) : idx l x < i := by
  rw [idx_yes (List.mem_of_mem_take h)]
  have e : l.idxOf x = (l.take i).idxOf x := by
    conv => lhs; rw [← List.take_append_drop i l]
    rw [List.idxOf_append, if_pos h]
  have := List.idxOf_lt_length_of_mem h
  have := List.length_take_le i l
  omega
theorem not_take {l : List Int} {i : Nat} (h : i < l.length) (hd : l.Nodup) : nth l i ∉ l.take i := by
  intro hm
  exact not_nodup h hm hd

/-- The first i segments and lengths may be. -/
structure Good2 (o l : List Int) (sg st : Int) (i : Nat) : Prop where
  g : Good o sg i
  pl : ∀ x ∈ l.take i, 0 ≤ x ∧ x ≤ st

set_option maxRecDepth 100000 in
set_option maxHeartbeats 16000000 in
theorem rright_main (sg st : Int) (bo oo m p bl ol q : Nat) (C : Option Addr) (r : Nat) (o l f : List Int) (w : World) (h : TIn w (some ⟨bo, oo, none⟩) m (some ⟨bl, ol, none⟩) m C m o l f) (hm : m ≤ maxLen) (h0 : 1 ≤ m) (hs : sizeB sg st = true) :
    Calls Try.prog 14 #[.agg #[.int .i64 sg, .int .i64 st, .slice (some ⟨bo, oo, none⟩) m p, .slice (some ⟨bl, ol, none⟩) m q, .slice C m r]] w fun e w' => e = .returned (.bool (okT ⟨sg, st, o, l, f⟩)) ∧ Below w.heap.size w w' := by
  have HM := Lib.hid hm
  unfold maxLen at hm
  have hol := h.a.len
  have hll := h.b.len
  have hfl := h.c.len
  have HOL := Lib.hid hol
  have HLL := Lib.hid hll
  have HFL := Lib.hid hfl
  have HT := Lib.hid h
  have HSZ := Lib.hid hs
  have hoc : bo < w.heap.size ∧ ∀ j, j < m → w.cell? ⟨bo, oo + j, none⟩ = some (.int .i64 (nth o j)) := by
    obtain ⟨b, off, e, hb, hc⟩ := h.a.cells (by omega)
    injection e with e
    injection e with e1 e2
    subst e1 e2
    exact ⟨hb, hc⟩
  have hlc : bl < w.heap.size ∧ ∀ j, j < m → w.cell? ⟨bl, ol + j, none⟩ = some (.int .i64 (nth l j)) := by
    obtain ⟨b, off, e, hb, hc⟩ := h.b.cells (by omega)
    injection e with e
    injection e with e1 e2
    subst e1 e2
    exact ⟨hb, hc⟩
  obtain ⟨hbo, hco⟩ := hoc
  obtain ⟨hbl, hcl⟩ := hlc
  have HCO := Lib.hid hco
  have HCL := Lib.hid hcl
  have I0 : Hid (Its w [(w.heap.size, 32, csT sg st (some ⟨bo, oo, none⟩) m p (some ⟨bl, ol, none⟩) m q C m r)] [] (w.alloc (.cells #[.int .i64 sg, .int .i64 st, .slice (some ⟨bo, oo, none⟩) m p, .slice (some ⟨bl, ol, none⟩) m q, .slice C m r] 32))) := Lib.hid ((Its.nil (below1 _ _)).cons (Blk.new w _ _))
  have hmm : ((m : Int) != (m : Int)) = false := by simp
  have hm1 : ¬ (m : Int) < 1 := by omega
  clear hco hcl h hol hll hfl hs
  go_enter Try.func14, Try.ntmps14
  go_wp2_with fail
  refine (may_is sg st true _ HSZ.out).mono ?_
  rintro e w' ⟨rfl, rfl⟩
  go_wp2_with fail
  go_loopg [4] m (fun gk s4 wr => ∃ i : Nat, i ≤ m ∧ gk = m - i ∧ s4 = .int .i64 i ∧ Hid (Its w [(w.heap.size, 32, csT sg st (some ⟨bo, oo, none⟩) m p (some ⟨bl, ol, none⟩) m q C m r)] [] wr) ∧ Hid (Good2 o l sg st i))
  case atStart => exact ⟨0, by omega, rfl, rfl, I0, Lib.hid ⟨⟨by simp, by simp⟩, by simp⟩⟩
  case round =>
    obtain ⟨i, hi, hgk, rfl, HI, HG⟩ := hrel
    have HGK := Lib.hid hgk
    clear hgk
    by_cases hlt : i < m
    · have hlti : (i : Int) < (m : Int) := by omega
      have hio : i < o.length := by have := HOL.out; omega
      have hil : i < l.length := by have := HLL.out; omega
      obtain ⟨x, X⟩ : ∃ x, Hid (nth o i = x) := ⟨_, Lib.hid rfl⟩
      obtain ⟨z, ZZ⟩ : ∃ z, Hid (nth l i = z) := ⟨_, Lib.hid rfl⟩
      obtain ⟨y, Y⟩ : ∃ y, Hid (idx o x = y) := ⟨_, Lib.hid rfl⟩
      have hne : Nonempty (In (Its w [(w.heap.size, 32, csT sg st (some ⟨bo, oo, none⟩) m p (some ⟨bl, ol, none⟩) m q C m r)] [])) := ⟨⟨_, HI.out⟩⟩
      have f0 : ∀ j : In (Its w [(w.heap.size, 32, csT sg st (some ⟨bo, oo, none⟩) m p (some ⟨bl, ol, none⟩) m q C m r)] []), j.W.cell? ⟨w.heap.size, 0, none⟩ = some (.int .i64 sg) := fun j => (j.h.at_ 0 rfl).cell 0
      have f1 : ∀ j : In (Its w [(w.heap.size, 32, csT sg st (some ⟨bo, oo, none⟩) m p (some ⟨bl, ol, none⟩) m q C m r)] []), j.W.cell? ⟨w.heap.size, 1, none⟩ = some (.int .i64 st) := fun j => (j.h.at_ 0 rfl).cell 1
      have f2 : ∀ j : In (Its w [(w.heap.size, 32, csT sg st (some ⟨bo, oo, none⟩) m p (some ⟨bl, ol, none⟩) m q C m r)] []), j.W.cell? ⟨w.heap.size, 2, none⟩ = some (.slice (some ⟨bo, oo, none⟩) m p) := fun j => (j.h.at_ 0 rfl).cell 2
      have f3 : ∀ j : In (Its w [(w.heap.size, 32, csT sg st (some ⟨bo, oo, none⟩) m p (some ⟨bl, ol, none⟩) m q C m r)] []), j.W.cell? ⟨w.heap.size, 3, none⟩ = some (.slice (some ⟨bl, ol, none⟩) m q) := fun j => (j.h.at_ 0 rfl).cell 3
      have f4 : ∀ j : In (Its w [(w.heap.size, 32, csT sg st (some ⟨bo, oo, none⟩) m p (some ⟨bl, ol, none⟩) m q C m r)] []), j.W.cell? ⟨w.heap.size, 4, none⟩ = some (.slice C m r) := fun j => (j.h.at_ 0 rfl).cell 4
      have fo : ∀ j : In (Its w [(w.heap.size, 32, csT sg st (some ⟨bo, oo, none⟩) m p (some ⟨bl, ol, none⟩) m q C m r)] []), j.W.cell? ⟨bo, oo + i, none⟩ = some (.int .i64 x) := fun j => ((bcell j.h.b).1 bo (oo + i) hbo).trans (by rw [HCO.out i hlt, X.out])
      have fl : ∀ j : In (Its w [(w.heap.size, 32, csT sg st (some ⟨bo, oo, none⟩) m p (some ⟨bl, ol, none⟩) m q C m r)] []), j.W.cell? ⟨bl, ol + i, none⟩ = some (.int .i64 z) := fun j => ((bcell j.h.b).1 bl (ol + i) hbl).trans (by rw [HCL.out i hlt, ZZ.out])
      have Q : Hid (∀ W : World, Its w [(w.heap.size, 32, csT sg st (some ⟨bo, oo, none⟩) m p (some ⟨bl, ol, none⟩) m q C m r)] [] W → Calls Try.prog 37 #[.agg #[.int .i64 sg, .int .i64 st, .slice (some ⟨bo, oo, none⟩) m p, .slice (some ⟨bl, ol, none⟩) m q, .slice C m r], .int .i64 x] W fun e w' => e = .returned (.int .i64 y) ∧ Below W.heap.size W w') := Lib.hid (fun W hi => in_is sg st (some ⟨bo, oo, none⟩) m p (some ⟨bl, ol, none⟩) m q C m r o l f x y W (HT.out.later hi.b) HM.out Y.out)
      have no : Hid (∀ P : Prop, (okP ⟨sg, st, o, l, f⟩ → ¬ P) → P → okT ⟨sg, st, o, l, f⟩ = false) := Lib.hid (fun P hp hP => okT_no (fun hk => hp hk hP))
      by_cases hx0 : x < 0
      · have B0 : Hid (okT ⟨sg, st, o, l, f⟩ = false) := Lib.hid (no.out (x < 0) (fun hk => by have := hk.2.2.2.1 _ (nth_mem hio); rw [X.out] at this; simp only at this; omega) hx0)
        go_wp2_with fail
        refine region_class (Its w [(w.heap.size, 32, csT sg st (some ⟨bo, oo, none⟩) m p (some ⟨bl, ol, none⟩) m q C m r)] []) (by kernel_rfl) (by kernel_rfl) HI.out.drawn ?_
        repeat (go_big_quiet_step ((go_at_call 37; with_reducible exact class_call _ (fun hi => its_ge hi (Q.out _ hi)))))
        refine wpQuiet_nil ?_
        rintro _ ⟨j, rfl⟩
        go_wp2_with fail
        go_ret
        exact ⟨ret_bool B0.out.symm, j.h.b⟩
      have hx0d : decide (x < 0) = false := by simpa using hx0
      by_cases hx1 : sg ≤ x
      · have B0 : Hid (okT ⟨sg, st, o, l, f⟩ = false) := Lib.hid (no.out (sg ≤ x) (fun hk => by have := hk.2.2.2.1 _ (nth_mem hio); rw [X.out] at this; simp only at this; omega) hx1)
        go_wp2_with fail
        refine region_class (Its w [(w.heap.size, 32, csT sg st (some ⟨bo, oo, none⟩) m p (some ⟨bl, ol, none⟩) m q C m r)] []) (by kernel_rfl) (by kernel_rfl) HI.out.drawn ?_
        repeat (go_big_quiet_step ((go_at_call 37; with_reducible exact class_call _ (fun hi => its_ge hi (Q.out _ hi)))))
        refine wpQuiet_nil ?_
        rintro _ ⟨j, rfl⟩
        go_wp2_with fail
        go_ret
        exact ⟨ret_bool B0.out.symm, j.h.b⟩
      have hx1d : decide (sg ≤ x) = false := by simpa using hx1
      by_cases hy : y = (i : Int)
      case neg =>
        have hyb : (y != (i : Int)) = true := by simpa using hy
        have B0 : Hid (okT ⟨sg, st, o, l, f⟩ = false) := Lib.hid (no.out (y ≠ (i : Int)) (fun hk hn => hn (by rw [← Y.out]; exact idx_at hio X.out (by rw [← X.out]; exact not_take hio hk.2.2.2.2.1))) hy)
        clear hy
        go_wp2_with fail
        refine region_class (Its w [(w.heap.size, 32, csT sg st (some ⟨bo, oo, none⟩) m p (some ⟨bl, ol, none⟩) m q C m r)] []) (by kernel_rfl) (by kernel_rfl) HI.out.drawn ?_
        repeat (go_big_quiet_step ((go_at_call 37; with_reducible exact class_call _ (fun hi => its_ge hi (Q.out _ hi)))))
        refine wpQuiet_nil ?_
        rintro _ ⟨j, rfl⟩
        go_wp2_with fail
        go_ret
        exact ⟨ret_bool B0.out.symm, j.h.b⟩
      have hyb : (y != (i : Int)) = false := by simpa using hy
      by_cases hz0 : z < 0
      · have B0 : Hid (okT ⟨sg, st, o, l, f⟩ = false) := Lib.hid (no.out (z < 0) (fun hk => by have := hk.2.2.2.2.2.1 _ (nth_mem hil); rw [ZZ.out] at this; simp only at this; omega) hz0)
        clear hy
        go_wp2_with fail
        refine region_class (Its w [(w.heap.size, 32, csT sg st (some ⟨bo, oo, none⟩) m p (some ⟨bl, ol, none⟩) m q C m r)] []) (by kernel_rfl) (by kernel_rfl) HI.out.drawn ?_
        repeat (go_big_quiet_step ((go_at_call 37; with_reducible exact class_call _ (fun hi => its_ge hi (Q.out _ hi)))))
        refine wpQuiet_nil ?_
        rintro _ ⟨j, rfl⟩
        go_wp2_with fail
        go_ret
        exact ⟨ret_bool B0.out.symm, j.h.b⟩
      have hz0d : decide (z < 0) = false := by simpa using hz0
      by_cases hz1 : st < z
      · have B0 : Hid (okT ⟨sg, st, o, l, f⟩ = false) := Lib.hid (no.out (st < z) (fun hk => by have := hk.2.2.2.2.2.1 _ (nth_mem hil); rw [ZZ.out] at this; simp only at this; omega) hz1)
        clear hy
        go_wp2_with fail
        refine region_class (Its w [(w.heap.size, 32, csT sg st (some ⟨bo, oo, none⟩) m p (some ⟨bl, ol, none⟩) m q C m r)] []) (by kernel_rfl) (by kernel_rfl) HI.out.drawn ?_
        repeat (go_big_quiet_step ((go_at_call 37; with_reducible exact class_call _ (fun hi => its_ge hi (Q.out _ hi)))))
        refine wpQuiet_nil ?_
        rintro _ ⟨j, rfl⟩
        go_wp2_with fail
        go_ret
        exact ⟨ret_bool B0.out.symm, j.h.b⟩
      have hz1d : decide (st < z) = false := by simpa using hz1
      have HG2 : Hid (Good2 o l sg st (i + 1)) := Lib.hid ⟨HG.out.g.next hio (by rw [X.out]; omega) (by
        intro hm
        rw [X.out] at hm
        have := idx_take hm
        rw [Y.out] at this
        omega), by
        intro v hv
        rw [take_nth hil, List.mem_append, List.mem_singleton, ZZ.out] at hv
        rcases hv with hv | rfl
        · exact HG.out.pl v hv
        · omega⟩
      clear hy
      go_wp2_with fail
      refine region_class (Its w [(w.heap.size, 32, csT sg st (some ⟨bo, oo, none⟩) m p (some ⟨bl, ol, none⟩) m q C m r)] []) (by kernel_rfl) (by kernel_rfl) HI.out.drawn ?_
      repeat (go_big_quiet_step ((go_at_call 37; with_reducible exact class_call _ (fun hi => its_ge hi (Q.out _ hi)))))
      refine wpQuiet_nil ?_
      rintro _ ⟨j, rfl⟩
      have HI2 := Lib.hid j.h
      clear f0 f1 f2 f3 f4 fo fl Q
      go_wp2_with fail
      go_roundg (m - (i + 1))
      case measure => have := HGK.out; omega
      case rel => exact ⟨i + 1, by omega, rfl, by go_num, HI2, HG2⟩
    · obtain rfl : i = m := by omega
      have hlti : ¬ (i : Int) < (i : Int) := by omega
      have HD : Hid (okT ⟨sg, st, o, l, f⟩ = true) := Lib.hid (by
        have g := HG.out
        have hs := HSZ.out
        unfold sizeB at hs
        rw [decide_eq_true_iff] at hs
        have e1 : o.take i = o := List.take_of_length_le (by have := HOL.out; omega)
        have e2 : l.take i = l := List.take_of_length_le (by have := HLL.out; omega)
        rw [okT_iff]
        refine ⟨hs.1, hs.2, by have := HOL.out; simp only; omega, ?_, ?_, ?_, by have := HOL.out; have := HLL.out; simp only; omega, by have := HOL.out; have := HFL.out; simp only; omega⟩
        · have := g.g.po; rw [e1] at this; exact this
        · have := g.g.pd; rw [e1] at this; exact this
        · have := g.pl; rw [e2] at this; exact this)
      go_wp2_with fail
      go_ret
      exact ⟨ret_bool HD.out.symm, HI.out.b⟩

theorem rright_is (sg st : Int) (A : Option Addr) (m p : Nat) (B : Option Addr) (k q : Nat) (C : Option Addr) (n r : Nat) (o l f : List Int) (b : Bool) (w : World) (h : TIn w A m B k C n o l f) (hm : m ≤ maxLen) (hk : k ≤ maxLen) (hn : n ≤ maxLen) (hb : okT ⟨sg, st, o, l, f⟩ = b) :
    Calls Try.prog 14 #[.agg #[.int .i64 sg, .int .i64 st, .slice A m p, .slice B k q, .slice C n r]] w fun e w' => e = .returned (.bool b) ∧ Below w.heap.size w w' := by
  subst hb
  have HB := Lib.hid (below1 w (.cells #[.int .i64 sg, .int .i64 st, .slice A m p, .slice B k q, .slice C n r] 32))
  have h1 := h.a.len
  have h2 := h.b.len
  have h3 := h.c.len
  by_cases hs : sizeB sg st = true
  case neg =>
    have hs' : sizeB sg st = false := by simpa using hs
    have e : okT ⟨sg, st, o, l, f⟩ = false := okT_no (fun hk => hs (by unfold sizeB; rw [decide_eq_true_iff]; exact ⟨hk.1, hk.2.1⟩))
    rw [e]
    have HS := Lib.hid hs'
    clear hs hs' e h1 h2 h3 h
    go_enter Try.func14, Try.ntmps14
    go_wp2_with fail
    refine (may_is sg st false _ HS.out).mono ?_
    rintro e w' ⟨rfl, rfl⟩
    go_wp2_with fail
    go_ret
    exact ⟨rfl, HB.out⟩
  have HS := Lib.hid hs
  unfold maxLen at hm hk hn
  by_cases h0 : 1 ≤ m
  case neg =>
    have e : okT ⟨sg, st, o, l, f⟩ = false := okT_no (fun hk => by have := hk.2.2.1; simp only at this; omega)
    rw [e]
    have hm1 : (m : Int) < 1 := by omega
    clear hs e h1 h2 h3 h h0
    go_enter Try.func14, Try.ntmps14
    go_wp2_with fail
    refine (may_is sg st true _ HS.out).mono ?_
    rintro e w' ⟨rfl, rfl⟩
    go_wp2_with fail
    go_ret
    exact ⟨rfl, HB.out⟩
  have hm1 : ¬ (m : Int) < 1 := by omega
  by_cases h4 : k = m
  case neg =>
    have e : okT ⟨sg, st, o, l, f⟩ = false := okT_no (fun hk => by have := hk.2.2.2.2.2.2.1; simp only at this; omega)
    rw [e]
    have hq : ((k : Int) != (m : Int)) = true := by simp; omega
    clear hs e h1 h2 h3 h h0 h4
    go_enter Try.func14, Try.ntmps14
    go_wp2_with fail
    refine (may_is sg st true _ HS.out).mono ?_
    rintro e w' ⟨rfl, rfl⟩
    go_wp2_with fail
    go_ret
    exact ⟨rfl, HB.out⟩
  by_cases h5 : n = m
  case neg =>
    have e : okT ⟨sg, st, o, l, f⟩ = false := okT_no (fun hk => by have := hk.2.2.2.2.2.2.2; simp only at this; omega)
    rw [e]
    subst h4
    have hq0 : ((k : Int) != (k : Int)) = false := by simp
    have hq : ((n : Int) != (k : Int)) = true := by simp; omega
    clear hs e h1 h2 h3 h h0 h5
    go_enter Try.func14, Try.ntmps14
    go_wp2_with fail
    refine (may_is sg st true _ HS.out).mono ?_
    rintro e w' ⟨rfl, rfl⟩
    go_wp2_with fail
    go_ret
    exact ⟨rfl, HB.out⟩
  subst h4 h5
  obtain ⟨bo, oo, rfl, _, _⟩ := h.a.cells (by omega)
  obtain ⟨bl, ol, rfl, _, _⟩ := h.b.cells (by omega)
  exact rright_main sg st bo oo _ p bl ol q C r o l f w h (by unfold maxLen; omega) h0 HS.out
end Go.Proofs.Ytpgbbbgblgkokaa
