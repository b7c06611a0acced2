/- Pushes onto lists of one's own, where the table's block is anywhere; the document's Roll; no memory that was there is changed. -/
import Derived.Test.YtpgbbbgblgkokaaTbT
namespace Go.Proofs.Ytpgbbbgblgkokaa
open Go.RowKit Go.Lib
set_option linter.unusedVariables false

theorem own_not {W : World} {base b n : Nat} {e T : TypeId} {v : Value} {xs : List Value} {cs : Array Value} (h : W.ownsRow base e 1 v n xs) (hB : Blk W b T cs) (hne : e ≠ T) : v.ownBlock ≠ some b := by
  intro hq
  rcases h.2 with ⟨rfl, _⟩ | ⟨g, cap, cur, rfl, _, hg, _⟩
  · cases hq
  · injection hq with hq
    simp only at hq
    subst hq
    unfold Blk at hB
    rw [hB] at hg
    injection hg with hg
    injection hg with _ hg
    exact hne hg.symm
/-- A table in a block, anywhere, whose lists are the call's own. -/
structure Own4 (base bc : Nat) (sg st : Int) (A : Option Addr) (m p : Nat) (B : Option Addr) (k q : Nat) (C : Option Addr) (n r : Nat) (o l f : List Int) (W : World) : Prop where
  z : Blk W bc 32 (csT sg st A m p B k q C n r)
  lt : base ≤ bc
  s : Rows3 base A m p B k q C n r o l f W
  sz : base ≤ W.heap.size
theorem Own4.later {base bc : Nat} {sg st : Int} {A : Option Addr} {m p : Nat} {B : Option Addr} {k q : Nat} {C : Option Addr} {n r : Nat} {o l f : List Int} {W W' : World} (h : Own4 base bc sg st A m p B k q C n r o l f W) (hb : Below W.heap.size W W') : Own4 base bc sg st A m p B k q C n r o l f W' := ⟨h.z.later hb, h.lt, h.s.later hb, Nat.le_trans h.sz hb.size⟩
theorem Own4.push_a {base bc : Nat} {sg st : Int} {A : Option Addr} {m p : Nat} {B : Option Addr} {k q : Nat} {C : Option Addr} {n r : Nat} {o l f : List Int} {W : World} {nb : Nat} {x : Int} (h : Own4 base bc sg st A m p B k q C n r o l f W) (hc : W.cell? ⟨nb, 0, none⟩ = some (.int .i64 x)) (hm : m < 1000) :
    ∃ g p' W5, (∀ ty, (Builtin.append_ #[25, 25] ty #[.slice A m p, .slice (some ⟨nb, 0, none⟩) 1 1]).run Try.prog W = .ok (.slice (some ⟨g, 0, none⟩) (m + 1) p') W5) ∧
      W5.cell? ⟨bc, 2, none⟩ = some (.slice A m p) ∧ W5.frozen? ⟨bc, 2, none⟩ = false ∧ Own4 base bc sg st (some ⟨g, 0, none⟩) (m + 1) p' B k q C n r (o ++ [x]) l f (W5.setCell ⟨bc, 2, none⟩ (.slice (some ⟨g, 0, none⟩) (m + 1) p')) ∧
      (∀ w0, Below w0.heap.size w0 W → w0.heap.size ≤ base → Below w0.heap.size w0 (W5.setCell ⟨bc, 2, none⟩ (.slice (some ⟨g, 0, none⟩) (m + 1) p'))) ∧ (∀ b t cs, Blk W b t cs → b < base → b ≠ bc → Blk (W5.setCell ⟨bc, 2, none⟩ (.slice (some ⟨g, 0, none⟩) (m + 1) p')) b t cs) := by
  obtain ⟨g, p', W5, hrun, own5, g5, hat, hlt⟩ := push_run (T := 25) Try.underlying25 infoI rfl h.s.a hm hc h.sz
  have hrow : ∀ j, ob A = some j → base ≤ j := fun j hj => (h.s.a.lt j (by rw [ob_eq]; exact hj)).1
  have k5 := blk_grown h.z g5 (fun e => own_not h.s.a h.z (by decide) (by rw [ob_eq]; exact e.symm))
  have gs := grown_set W5 bc 2 (.slice (some ⟨g, 0, none⟩) (m + 1) p')
  have keep : ∀ {e' : TypeId} {B' : Option Addr} {n' q' : Nat} {xs : List Value}, e' ≠ 32 → W5.ownsRow base e' 1 (.slice B' n' q') n' xs → (W5.setCell ⟨bc, 2, none⟩ (.slice (some ⟨g, 0, none⟩) (m + 1) p')).ownsRow base e' 1 (.slice B' n' q') n' xs := fun {e'} {B'} {n'} {q'} {xs} he ho => ho.kept gs (by
    cases hq : (Value.slice B' n' q').ownBlock with
    | none => exact .inl rfl
    | some j => exact .inr (fun e => own_not ho k5 he (hq.trans e)))
  refine ⟨g, p', W5, hrun, k5.cell 2, k5.frozen 2, ⟨?_, h.lt, ⟨?_, ?_, ?_, ?_⟩, ?_⟩, fun w0 hb hle => ?_, fun b t cs hB hb hne => ?_⟩
  · exact k5.set_ 2 _
  · exact keep (by decide) own5
  · exact keep (by decide) (own_kept (p := 0) h.s.b g5 h.s.ab)
  · exact keep (by decide) (own_kept (p := 0) h.s.c g5 (fun j hj => by have := own_ne h.s.a h.s.c (by decide) j; rw [ob_eq, ob_eq] at this; exact this hj))
  · intro j hj hh
    injection hj with hj
    have hj : g = j := hj
    rcases hat with e | e
    · exact h.s.ab j (by rw [e, hj]) hh
    · have := (h.s.b.lt j (by rw [ob_eq]; exact hh)).2
      omega
  · have := g5.size; have := h.sz; simp; omega
  · refine Below.setCell (p := ⟨bc, 2, none⟩) ?_ (Nat.le_trans hle h.lt) _
    exact hb.grown g5 hb.size (fun j hj => by have := hrow j hj; have := h.lt; omega)
  · exact blk_grown (blk_grown hB g5 (fun e => by have := hrow b e.symm; omega)) gs (fun e => by injection e with e; exact hne e)

theorem Own4.push_b {base bc : Nat} {sg st : Int} {A : Option Addr} {m p : Nat} {B : Option Addr} {k q : Nat} {C : Option Addr} {n r : Nat} {o l f : List Int} {W : World} {nb : Nat} {x : Int} (h : Own4 base bc sg st A m p B k q C n r o l f W) (hc : W.cell? ⟨nb, 0, none⟩ = some (.int .i64 x)) (hm : k < 1000) :
    ∃ g p' W5, (∀ ty, (Builtin.append_ #[25, 25] ty #[.slice B k q, .slice (some ⟨nb, 0, none⟩) 1 1]).run Try.prog W = .ok (.slice (some ⟨g, 0, none⟩) (k + 1) p') W5) ∧
      W5.cell? ⟨bc, 3, none⟩ = some (.slice B k q) ∧ W5.frozen? ⟨bc, 3, none⟩ = false ∧ Own4 base bc sg st A m p (some ⟨g, 0, none⟩) (k + 1) p' C n r o (l ++ [x]) f (W5.setCell ⟨bc, 3, none⟩ (.slice (some ⟨g, 0, none⟩) (k + 1) p')) ∧
      (∀ w0, Below w0.heap.size w0 W → w0.heap.size ≤ base → Below w0.heap.size w0 (W5.setCell ⟨bc, 3, none⟩ (.slice (some ⟨g, 0, none⟩) (k + 1) p'))) ∧ (∀ b t cs, Blk W b t cs → b < base → b ≠ bc → Blk (W5.setCell ⟨bc, 3, none⟩ (.slice (some ⟨g, 0, none⟩) (k + 1) p')) b t cs) := by
  obtain ⟨g, p', W5, hrun, own5, g5, hat, hlt⟩ := push_run (T := 25) Try.underlying25 infoI rfl h.s.b hm hc h.sz
  have hrow : ∀ j, ob B = some j → base ≤ j := fun j hj => (h.s.b.lt j (by rw [ob_eq]; exact hj)).1
  have k5 := blk_grown h.z g5 (fun e => own_not h.s.b h.z (by decide) (by rw [ob_eq]; exact e.symm))
  have gs := grown_set W5 bc 3 (.slice (some ⟨g, 0, none⟩) (k + 1) p')
  have keep : ∀ {e' : TypeId} {B' : Option Addr} {n' q' : Nat} {xs : List Value}, e' ≠ 32 → W5.ownsRow base e' 1 (.slice B' n' q') n' xs → (W5.setCell ⟨bc, 3, none⟩ (.slice (some ⟨g, 0, none⟩) (k + 1) p')).ownsRow base e' 1 (.slice B' n' q') n' xs := fun {e'} {B'} {n'} {q'} {xs} he ho => ho.kept gs (by
    cases hq : (Value.slice B' n' q').ownBlock with
    | none => exact .inl rfl
    | some j => exact .inr (fun e => own_not ho k5 he (hq.trans e)))
  refine ⟨g, p', W5, hrun, k5.cell 3, k5.frozen 3, ⟨?_, h.lt, ⟨?_, ?_, ?_, ?_⟩, ?_⟩, fun w0 hb hle => ?_, fun b t cs hB hb hne => ?_⟩
  · exact k5.set_ 3 _
  · exact keep (by decide) (own_kept (p := 0) h.s.a g5 (fun j hj hh => h.s.ab j hh hj))
  · exact keep (by decide) own5
  · exact keep (by decide) (own_kept (p := 0) h.s.c g5 (fun j hj => by have := own_ne h.s.b h.s.c (by decide) j; rw [ob_eq, ob_eq] at this; exact this hj))
  · intro j hj hh
    injection hh with hh
    have hh : g = j := hh
    rcases hat with e | e
    · exact h.s.ab j hj (by rw [e, hh])
    · have := (h.s.a.lt j (by rw [ob_eq]; exact hj)).2
      omega
  · have := g5.size; have := h.sz; simp; omega
  · refine Below.setCell (p := ⟨bc, 3, none⟩) ?_ (Nat.le_trans hle h.lt) _
    exact hb.grown g5 hb.size (fun j hj => by have := hrow j hj; have := h.lt; omega)
  · exact blk_grown (blk_grown hB g5 (fun e => by have := hrow b e.symm; omega)) gs (fun e => by injection e with e; exact hne e)

theorem Own4.push_c {base bc : Nat} {sg st : Int} {A : Option Addr} {m p : Nat} {B : Option Addr} {k q : Nat} {C : Option Addr} {n r : Nat} {o l f : List Int} {W : World} {nb : Nat} {x : Int} (h : Own4 base bc sg st A m p B k q C n r o l f W) (hc : W.cell? ⟨nb, 0, none⟩ = some (.int .u64 x)) (hm : n < 1000) :
    ∃ g p' W5, (∀ ty, (Builtin.append_ #[26, 26] ty #[.slice C n r, .slice (some ⟨nb, 0, none⟩) 1 1]).run Try.prog W = .ok (.slice (some ⟨g, 0, none⟩) (n + 1) p') W5) ∧
      W5.cell? ⟨bc, 4, none⟩ = some (.slice C n r) ∧ W5.frozen? ⟨bc, 4, none⟩ = false ∧ Own4 base bc sg st A m p B k q (some ⟨g, 0, none⟩) (n + 1) p' o l (f ++ [x]) (W5.setCell ⟨bc, 4, none⟩ (.slice (some ⟨g, 0, none⟩) (n + 1) p')) ∧
      (∀ w0, Below w0.heap.size w0 W → w0.heap.size ≤ base → Below w0.heap.size w0 (W5.setCell ⟨bc, 4, none⟩ (.slice (some ⟨g, 0, none⟩) (n + 1) p'))) ∧ (∀ b t cs, Blk W b t cs → b < base → b ≠ bc → Blk (W5.setCell ⟨bc, 4, none⟩ (.slice (some ⟨g, 0, none⟩) (n + 1) p')) b t cs) := by
  obtain ⟨g, p', W5, hrun, own5, g5, hat, hlt⟩ := push_run (T := 26) Try.underlying26 infoU rfl h.s.c hm hc h.sz
  have hrow : ∀ j, ob C = some j → base ≤ j := fun j hj => (h.s.c.lt j (by rw [ob_eq]; exact hj)).1
  have k5 := blk_grown h.z g5 (fun e => own_not h.s.c h.z (by decide) (by rw [ob_eq]; exact e.symm))
  have gs := grown_set W5 bc 4 (.slice (some ⟨g, 0, none⟩) (n + 1) p')
  have keep : ∀ {e' : TypeId} {B' : Option Addr} {n' q' : Nat} {xs : List Value}, e' ≠ 32 → W5.ownsRow base e' 1 (.slice B' n' q') n' xs → (W5.setCell ⟨bc, 4, none⟩ (.slice (some ⟨g, 0, none⟩) (n + 1) p')).ownsRow base e' 1 (.slice B' n' q') n' xs := fun {e'} {B'} {n'} {q'} {xs} he ho => ho.kept gs (by
    cases hq : (Value.slice B' n' q').ownBlock with
    | none => exact .inl rfl
    | some j => exact .inr (fun e => own_not ho k5 he (hq.trans e)))
  refine ⟨g, p', W5, hrun, k5.cell 4, k5.frozen 4, ⟨?_, h.lt, ⟨?_, ?_, ?_, ?_⟩, ?_⟩, fun w0 hb hle => ?_, fun b t cs hB hb hne => ?_⟩
  · exact k5.set_ 4 _
  · exact keep (by decide) (own_kept (p := 0) h.s.a g5 (fun j hj => by have := own_ne h.s.c h.s.a (by decide) j; rw [ob_eq, ob_eq] at this; exact this hj))
  · exact keep (by decide) (own_kept (p := 0) h.s.b g5 (fun j hj => by have := own_ne h.s.c h.s.b (by decide) j; rw [ob_eq, ob_eq] at this; exact this hj))
  · exact keep (by decide) own5
  · exact h.s.ab
  · have := g5.size; have := h.sz; simp; omega
  · refine Below.setCell (p := ⟨bc, 4, none⟩) ?_ (Nat.le_trans hle h.lt) _
    exact hb.grown g5 hb.size (fun j hj => by have := hrow j hj; have := h.lt; omega)
  · exact blk_grown (blk_grown hB g5 (fun e => by have := hrow b e.symm; omega)) gs (fun e => by injection e with e; exact hne e)
theorem arrF36 {cs : Array Value} (h : cs.size = 36) : ∃ y : Nat → Value, (∀ i, cs.getD i undef = y i) ∧ cs = #[y 0, y 1, y 2, y 3, y 4, y 5, y 6, y 7, y 8, y 9, y 10, y 11, y 12, y 13, y 14, y 15, y 16, y 17, y 18, y 19, y 20, y 21, y 22, y 23, y 24, y 25, y 26, y 27, y 28, y 29, y 30, y 31, y 32, y 33, y 34, y 35] := by
  refine ⟨fun i => cs.getD i undef, fun _ => rfl, ?_⟩
  have e : cs = ((List.range 36).map fun i => cs.getD i undef).toArray := by
    apply Array.ext
    · simp [h]
    · intro i h1 h2
      simp [h1]
  exact e.trans rfl

set_option maxRecDepth 100000 in
set_option maxHeartbeats 16000000 in
theorem rroll_any (sg st : Int) (A : Option Addr) (m p : Nat) (B : Option Addr) (k q : Nat) (C : Option Addr) (n r : Nat) (o l f : List Int) (first : Int) (w : World) (h : TIn w A m B k C n o l f) (hok : okP ⟨sg, st, o, l, f⟩) :
    Calls Try.prog 39 #[.agg #[.int .i64 sg, .int .i64 st, .slice A m p, .slice B k q, .slice C n r], .int .u64 first] w (RefF (tabOf (rollT ⟨sg, st, o, l, f⟩ first)) (errOf (rollT ⟨sg, st, o, l, f⟩ first) 10) w) := by
  have hm := (ok_full hok h).2.1
  have hk := (ok_full hok h).2.2.1
  have hn := (ok_full hok h).2.2.2.1
  have hml := (ok_full hok h).2.2.2.2.1
  have hm1 : 1 ≤ m ∧ m ≤ 1000 := by omega
  have hk1 : 1 ≤ k ∧ k ≤ 1000 := by omega
  have hn1 : 1 ≤ n ∧ n ≤ 1000 := by omega
  have hm2 : m < 1000 := by omega
  have hk2 : k < 1000 := by omega
  have hn2 : n < 1000 := by omega
  have h1 := hok.1
  simp only at h1
  clear hm hk hn
  have hv := Try.zeroValue32
  have HT := Lib.hid h
  have B0 : Below w.heap.size w ((w.alloc (.cells #[.int .i64 sg, .int .i64 st, .slice A m p, .slice B k q, .slice C n r] 32)).alloc (.cells #[.int .i64 0, .int .i64 0, .slice none 0 0, .slice none 0 0, .slice none 0 0] 32)) := Ge.trans (below1 _ _) (below1 _ _)
  have K0 : Blk ((w.alloc (.cells #[.int .i64 sg, .int .i64 st, .slice A m p, .slice B k q, .slice C n r] 32)).alloc (.cells #[.int .i64 0, .int .i64 0, .slice none 0 0, .slice none 0 0, .slice none 0 0] 32)) w.heap.size 32 (csT sg st A m p B k q C n r) := (Blk.new w _ _).later (below1 _ _)
  have Z0 : Blk ((w.alloc (.cells #[.int .i64 sg, .int .i64 st, .slice A m p, .slice B k q, .slice C n r] 32)).alloc (.cells #[.int .i64 0, .int .i64 0, .slice none 0 0, .slice none 0 0, .slice none 0 0] 32)) (w.heap.size + 1) 32 (csT 0 0 none 0 0 none 0 0 none 0 0) := Blk.at_ _ _ _ (by simp)
  have S0 : w.heap.size + 2 ≤ ((w.alloc (.cells #[.int .i64 sg, .int .i64 st, .slice A m p, .slice B k q, .slice C n r] 32)).alloc (.cells #[.int .i64 0, .int .i64 0, .slice none 0 0, .slice none 0 0, .slice none 0 0] 32)).heap.size := by simp
  clear h
  go_enter Try.func39, Try.ntmps39
  go_wp2_with fail
  refine FreeC.wp_freeC (List.map CndA.p [.is (.agg #[.int .i64 sg, .int .i64 st, .slice A m p, .slice B k q, .slice C n r]),
    .own (w.heap.size + 2) (freeT ⟨sg, st, o, l, f⟩),
    .is (.agg #[.int .i64 sg, .int .i64 st, .slice A m p, .slice B k q, .slice C n r]),
    .row3 (w.heap.size + 2) sg st m k n o l f,
    .any,
    .own (w.heap.size + 2) (freeT ⟨sg, st, o, l, f⟩),
    .any]) (AwC w (w.heap.size + 1) (w.heap.size + 2) 4 6 7 (csT sg st A m p B k q C n r) sg st m k n o l f) (by kernel_rfl) (by kernel_rfl) ⟨Ge.trans B0 (below_drawn _), K0.later (below_drawn _), Z0.later (below_drawn _), S0, by omega, by omega, fun e => by simp at e, fun e => by simp at e⟩ ?_ ?_
  · clear K0 Z0 B0 S0
    refine ⟨?_, ?_, ?_, ?_, ?_, ?_, ?_, trivial⟩
    · intro listed A0 W hA hno hr K hK
      have e2 : A0.tmps[2]?.getD undef = .pointer (some ⟨w.heap.size, 0, none⟩) := slot_is ((hA.kept 2 (Free.not_dst (by kernel_rfl))).trans rfl)
      have c0 : W.cell? ⟨w.heap.size, 0, none⟩ = some (.int .i64 sg) := hA.c.kb.cell 0
      have c1 : W.cell? ⟨w.heap.size, 1, none⟩ = some (.int .i64 st) := hA.c.kb.cell 1
      have c2 : W.cell? ⟨w.heap.size, 2, none⟩ = some (.slice A m p) := hA.c.kb.cell 2
      have c3 : W.cell? ⟨w.heap.size, 3, none⟩ = some (.slice B k q) := hA.c.kb.cell 3
      have c4 : W.cell? ⟨w.heap.size, 4, none⟩ = some (.slice C n r) := hA.c.kb.cell 4
      simp [go_sem, e2, c0, c1, c2, c3, c4]
      exact hK _ _ (hA.c.step 0 8 _ (by omega) (by omega) (by omega) (Below.refl _ _)) rfl (fun j u _ _ hu => CndA.keep (Below.refl _ _) hu)
    · intro listed A0 W hA hno hr K hK
      have e8 : A0.tmps[8]?.getD undef = .agg #[.int .i64 sg, .int .i64 st, .slice A m p, .slice B k q, .slice C n r] := slot_is (hA.val 0 _ rfl (hr ⟨0, .data⟩ (by simp) rfl))
      simp [go_sem, e8]
      refine (rfree_own sg st A m p B k q C n r o l f W (HT.out.later hA.c.b) hml ⟨by omega, h1.2⟩).mono ?_
      rintro e' w' ⟨A9, m9, p9, rfl, o9, hb⟩
      exact hK _ _ (hA.c.step 1 9 _ (by omega) (by omega) (by omega) hb) ⟨A9, m9, p9, rfl, own_base o9 hA.c.s⟩ (fun j u _ _ hu => CndA.keep hb hu)
    · intro listed A0 W hA hno hr K hK
      have e2 : A0.tmps[2]?.getD undef = .pointer (some ⟨w.heap.size, 0, none⟩) := slot_is ((hA.kept 2 (Free.not_dst (by kernel_rfl))).trans rfl)
      have c0 : W.cell? ⟨w.heap.size, 0, none⟩ = some (.int .i64 sg) := hA.c.kb.cell 0
      have c1 : W.cell? ⟨w.heap.size, 1, none⟩ = some (.int .i64 st) := hA.c.kb.cell 1
      have c2 : W.cell? ⟨w.heap.size, 2, none⟩ = some (.slice A m p) := hA.c.kb.cell 2
      have c3 : W.cell? ⟨w.heap.size, 3, none⟩ = some (.slice B k q) := hA.c.kb.cell 3
      have c4 : W.cell? ⟨w.heap.size, 4, none⟩ = some (.slice C n r) := hA.c.kb.cell 4
      simp [go_sem, e2, c0, c1, c2, c3, c4]
      exact hK _ _ (hA.c.step 2 10 _ (by omega) (by omega) (by omega) (Below.refl _ _)) rfl (fun j u _ _ hu => CndA.keep (Below.refl _ _) hu)
    · intro listed A0 W hA hno hr K hK
      have e10 : A0.tmps[10]?.getD undef = .agg #[.int .i64 sg, .int .i64 st, .slice A m p, .slice B k q, .slice C n r] := slot_is (hA.val 2 _ rfl (hr ⟨2, .data⟩ (by simp) rfl))
      simp [go_sem, e10]
      refine (rown_any sg st A m p B k q C n r o l f W (HT.out.later hA.c.b) hm1 hk1 hn1).mono ?_
      rintro e' w' ⟨A1, p1, B1, q1, C1, r1, rfl, R1, hb⟩
      exact hK _ _ (hA.c.step 3 11 _ (by omega) (by omega) (by omega) hb) ⟨A1, p1, B1, q1, C1, r1, rfl, R1.wide hA.c.s⟩ (fun j u _ _ hu => CndA.keep hb hu)
    · intro listed A0 W hA hno hr K hK
      have hsz := hA.size
      simp at hsz
      have hts := hA.slots
      simp at hts
      simp [go_sem, hv]
      exact hK _ _ (hA.c.alloc (by omega) (by omega) (by omega) hno) trivial (fun j u _ _ hu => CndA.keep (below1 _ _) hu)
    · intro listed A0 W hA hno hr K hK
      obtain ⟨A9, m9, p9, e9, o9⟩ := slot_ownl (hA.val 1 _ rfl (hr ⟨1, .data⟩ (by simp) rfl))
      simp [go_sem, e9]
      exact hK _ _ (hA.c.step 5 6 _ (by omega) (by omega) (by omega) (Below.refl _ _)) ⟨A9, m9, p9, rfl, o9⟩ (fun j u _ _ hu => CndA.keep (Below.refl _ _) hu)
    · intro listed A0 W hA hno hr K hK
      obtain ⟨A1, p1, B1, q1, C1, r1, e11, R1⟩ := slot_row3 (hA.val 3 _ rfl (hr ⟨3, .data⟩ (by simp) rfl))
      have hsz := hA.size
      simp at hsz
      have hla := hr ⟨4, .data⟩ (by simp) rfl
      obtain ⟨b, hs4, hbb, hz4, _⟩ := hA.c.blk hla
      have hB := hz4 (not_listed (by omega) hno)
      refine wp_store_row _ (.tmp 7) (.tmp 11) rfl b (csT sg st A1 m p1 B1 k q1 C1 n r1) hs4 (by simpa [Act.eval, csT] using e11) _ _ hB info_r rfl (csT_one _ _ _ _ _ _ _ _ _ _ _) ?_
      exact hK undef _ (hA.c.store (by omega) (by omega) hla hs4 hB hbb R1) trivial (fun j u _ _ hu => CndA.lift (fun c => c.far hB _) hu)
  · intro A0 W hA
    clear K0 Z0 B0 S0
    obtain ⟨b4, s7, hb4, _, hw⟩ := hA.c.blk rfl
    obtain ⟨A1, p1, B1, q1, C1, r1, K4, R4⟩ := hw rfl
    obtain ⟨A9, m9, p9, s6, o9⟩ : ∃ A9 m9 p9, A0.tmps.getD 6 undef = .slice A9 m9 p9 ∧ W.ownsRow (w.heap.size + 2) 3 1 (.slice A9 m9 p9) m9 (iv .i64 (freeT ⟨sg, st, o, l, f⟩)) := hA.val 5 _ rfl rfl
    have s1 : A0.tmps.getD 1 undef = .int .u64 first := (hA.kept 1 (Free.not_dst (by kernel_rfl))).trans rfl
    have s4 : A0.tmps.getD 4 undef = .pointer (some ⟨w.heap.size + 1, 0, none⟩) := (hA.kept 4 (Free.not_dst (by kernel_rfl))).trans rfl
    have hsz := hA.slots
    have hde := hA.defers
    have BB := hA.c.b
    have ZB := hA.c.z
    have SB := hA.c.s
    clear hA hw
    obtain ⟨tm, de⟩ := A0
    simp only at s4 s1 s6 s7 hsz hde
    obtain ⟨y, hy, ee⟩ := arrF36 hsz
    have t1 := (hy _).symm.trans s1
    have t4 := (hy _).symm.trans s4
    have t6 := (hy _).symm.trans s6
    have t7 := (hy _).symm.trans s7
    rw [t1, t4, t6, t7] at ee
    clear hy s1 s4 s6 s7 hsz t1 t4 t6 t7
    subst ee hde
    have S9 := own_sl o9
    have l9 := S9.len
    cases hx : freeT ⟨sg, st, o, l, f⟩ with
    | nil =>
      have HC : Hid (rollT ⟨sg, st, o, l, f⟩ first = none) := Lib.hid (by unfold rollT; rw [hx])
      rw [hx] at l9
      simp only [List.length_nil] at l9
      subst l9
      have Z1 := Lib.hid ZB
      go_wp2_with (with_reducible refine store_r rfl (.tmp 4) (.tmp 15) rfl (w.heap.size + 1) rfl rfl Z1.out ?_)
      exact bodyPost_ret (res_r2 (y := .int .i64 10) rfl _ _ (w.heap.size + 1) rfl rfl (Z1.out.row _)) rfl (by rw [HC.out]; exact zero_reff 10 w _ (below_row BB (by omega) _))
    | cons s rest =>
      have HC : Hid (rollT ⟨sg, st, o, l, f⟩ first = some ⟨sg, st, o ++ [s], l ++ [0], f ++ [first]⟩) := Lib.hid (by unfold rollT; rw [hx]; rfl)
      rw [hx] at l9 S9
      simp only [List.length_cons] at l9
      obtain ⟨g9, off9, rfl, hg9, hc9⟩ := S9.cells (by omega)
      have c9 : W.cell? ⟨g9, off9 + 0, none⟩ = some (.int .i64 s) := hc9 0 (by omega)
      rw [Nat.add_zero] at c9
      have hq : ((m9 : Int) == 0) = false := by simp; omega
      have hqi : (0 : Int) < (m9 : Int) := by omega
      have hqn : 0 < m9 := by omega
      have O2 : Own4 (w.heap.size + 2) b4 sg st A1 m p1 B1 k q1 C1 n r1 o l f W := ⟨K4, hb4, R4, SB⟩
      have b2 : Below W.heap.size W (W.alloc (.cells #[.int .i64 s] 3)).drew := Ge.trans (below1 _ _) (below_drawn _)
      obtain ⟨gA, pA, Y2, run2, cA, fA, O4, bl2, kl2⟩ := (O2.later b2).push_a (nb := W.heap.size) (x := s) (((Blk.new W 3 #[.int .i64 s]).later (below_drawn _)).cell 0) hm2
      have k2 : W.cell? ⟨b4, 2, none⟩ = some (.slice A1 m p1) := O2.z.cell 2
      have k2' : (W.alloc (.cells #[.int .i64 s] 3)).cell? ⟨b4, 2, none⟩ = some (.slice A1 m p1) := (O2.z.later (below1 _ _)).cell 2
      have Z4 := kl2 _ _ _ (ZB.later b2) (by omega) (by omega)
      have B4 := bl2 w (Ge.trans BB b2) (by omega)
      have HO4 := Lib.hid O4
      have HZ4 := Lib.hid Z4
      have HB4 := Lib.hid B4
      clear O4 Z4 B4 bl2 kl2 O2 b2 hc9 S9 o9 K4 R4 ZB BB SB hx l9 HT h1
      go_upto_region 4 with fail
      go_region_law (refine step_append_run rfl (.tmp 17) (.tmp 21) 25 rfl _ _ rfl rfl run2 ?_)
      all_goals
        go_upto_region 5 with fail
        generalize Y2.setCell ⟨b4, 2, none⟩ (.slice (some ⟨gA, 0, none⟩) (m + 1) pA) = W4 at *
        clear run2 cA fA k2 k2' c9
        have b4' := below1 W4 (.cells #[.int .i64 0] 3)
        obtain ⟨gB, pB, Y4, run4, c4, f4, O6, bl4, kl4⟩ := (HO4.out.later b4').push_b (nb := W4.heap.size) (x := 0) ((Blk.new W4 3 #[.int .i64 0]).cell 0) hk2
        have k4 : W4.cell? ⟨b4, 3, none⟩ = some (.slice B1 k q1) := HO4.out.z.cell 3
        have Z6 := kl4 _ _ _ (HZ4.out.later b4') (by omega) (by omega)
        have B6 := bl4 w (Ge.trans HB4.out b4') (by omega)
        have HR4 := Lib.hid run4
        clear run4 bl4 kl4 b4'
        go_upto_region 6 with (at_builtin; refine list_append_run rfl (.tmp 25) (.tmp 26) 25 rfl _ _ rfl rfl HR4.out ?_)
        clear c4 f4 k4 HR4 HO4 HZ4 HB4
        generalize Y4.setCell ⟨b4, 3, none⟩ (.slice (some ⟨gB, 0, none⟩) (k + 1) pB) = W6 at *
        have b6 := below1 W6 (.cells #[.int .u64 first] 23)
        obtain ⟨gC, pC, Y6, run6, c6, f6, O8, bl6, kl6⟩ := (O6.later b6).push_c (nb := W6.heap.size) (x := first) ((Blk.new W6 23 #[.int .u64 first]).cell 0) hn2
        have k6 : W6.cell? ⟨b4, 4, none⟩ = some (.slice C1 n r1) := O6.z.cell 4
        have Z8 := kl6 _ _ _ (Z6.later b6) (by omega) (by omega)
        have B8 := bl6 w (Ge.trans B6 b6) (by omega)
        have HR6 := Lib.hid run6
        clear run6 bl6 kl6 b6 O6 Z6 B6
        go_upto_region 7 with (at_builtin; refine list_append_run rfl (.tmp 30) (.tmp 32) 26 rfl _ _ rfl rfl HR6.out ?_)
        clear c6 f6 k6 HR6
        generalize Y6.setCell ⟨b4, 4, none⟩ (.slice (some ⟨gC, 0, none⟩) (n + 1) pC) = W8 at *
        have HK8 := Lib.hid O8.z
        have HZ8 := Lib.hid Z8
        go_wp2_with (first
          | (with_reducible refine load_r rfl (.tmp 7) rfl b4 rfl HK8.out ?_)
          | (with_reducible refine store_r rfl (.tmp 4) (.tmp 35) rfl (w.heap.size + 1) rfl rfl HZ8.out ?_))
        have R9 := O8.s.row (b := w.heap.size + 1) (cs := csT sg st (some ⟨gA, 0, none⟩) (m + 1) pA (some ⟨gB, 0, none⟩) (k + 1) pB (some ⟨gC, 0, none⟩) (n + 1) pC) (by omega)
        exact bodyPost_ret (res_r2 (y := .int .i64 0) rfl _ _ (w.heap.size + 1) rfl rfl (HZ8.out.row _)) rfl (by rw [HC.out]; exact ⟨_, _, _, _, _, _, _, _, _, rfl, R9.tin, (R9.wide (by omega)).fresh, below_row B8 (by omega) _⟩)
end Go.Proofs.Ytpgbbbgblgkokaa
