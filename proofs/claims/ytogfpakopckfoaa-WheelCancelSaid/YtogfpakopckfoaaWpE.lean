/- What becomes of the wheel where an entry is marked, laid into a slot or among the far ones, taken out of the far ones, laid into the map of all, or taken out of that. -/
import Derived.Test.YtogfpakopckfoaaWpD
namespace Go.Proofs.Ytogfpakopckfoaa.Wl
open Go.RowKit Go.Lib Go.Maps
open Sp
set_option linter.unusedVariables false
set_option maxRecDepth 100000

theorem pptr_infos : (Try.prog.info? 75).map (fun i => (i.zero, i.size, i.bytes)) = some (some (.pointer none), 1, 8) := by kernel_rfl
section
variable {w w' : World} {g ma mf t : Nat} {v : Nat → Value} {sl : Nat → List En} {L A : List En} {p : En → Bool} {e : En}
theorem MemW.part (h : MemW w g ma mf v sl t L A p) (c : Nat → Prop) (hs : ∀ b, Foot g ma mf v A b → ¬ c b → w'.heap[b]? = w.heap[b]?) :
    (¬ c g → Sp.Blk w' g 66 (whC t ma mf v)) ∧ (¬ c ma → MapL w' ma L) ∧ (¬ c mf → MapL w' mf (A.filter (slP t p 64))) ∧
    (∀ e ∈ A, ¬ c e.b → ∃ z : Nat, z ≤ 1000 ∧ Sp.Blk w' e.b 77 (enC e z)) ∧
    (∀ k, k < 64 → (∀ b, (v k).ownBlock = some b → ¬ c b) → w'.ownsRow 0 75 1 (v k) (sl k).length ((sl k).map En.ptr)) ∧
    (∀ k, k < 64 → ∀ j e, (sl k)[j]? = some e → ¬ c e.b → Sp.Blk w' e.b 77 (enC e j)) := by
  refine ⟨fun hc => (hs g (.inl rfl) hc).trans h.blk, fun hc => h.am.same (hs ma (.inr (.inl rfl)) hc), fun hc => h.fm.same (hs mf (.inr (.inr (.inl rfl))) hc), fun e he hc => ?_, fun k hk hc => own_same (h.row k hk) (fun b hb => hs b (.inr (.inr (.inr (.inr ⟨k, hk, hb⟩)))) (hc b hb)), fun k hk j e hj hc => ?_⟩
  · obtain ⟨z, h1, h2⟩ := h.ent e he
    exact ⟨z, h1, (hs e.b (.inr (.inr (.inr (.inl ⟨e, he, rfl⟩)))) hc).trans h2⟩
  · have he : e ∈ A := (List.mem_filter.1 ((h.per k hk).mem_iff.1 (List.mem_of_getElem? hj))).1
    exact (hs e.b (.inr (.inr (.inr (.inl ⟨e, he, rfl⟩)))) hc).trans (h.at_ k hk j e hj)
theorem MemW.ent_blk (h : MemW w g ma mf v sl t L A p) (he : e ∈ A) : ∃ cs, Sp.Blk w e.b 77 cs := by
  obtain ⟨z, _, h2⟩ := h.ent e he
  exact ⟨_, h2⟩
theorem MemW.g_e (h : MemW w g ma mf v sl t L A p) (he : e ∈ A) : g ≠ e.b := by
  obtain ⟨cs, h2⟩ := h.ent_blk he
  rintro rfl
  exact absurd (blk_ty h.blk h2) (by decide)
theorem MemW.g_m (h : MemW w g ma mf v sl t L A p) : g ≠ ma ∧ g ≠ mf := ⟨blk_map h.blk h.am, blk_map h.blk h.fm⟩
theorem MemW.e_m (h : MemW w g ma mf v sl t L A p) (he : e ∈ A) : e.b ≠ ma ∧ e.b ≠ mf := by
  obtain ⟨cs, h2⟩ := h.ent_blk he
  exact ⟨blk_map h2 h.am, blk_map h2 h.fm⟩
theorem MemW.r_g (h : MemW w g ma mf v sl t L A p) {k r : Nat} (hk : k < 64) (hr : (v k).ownBlock = some r) : r ≠ g := by
  obtain ⟨cur, h2⟩ := row_blk (h.row k hk) hr
  rintro rfl
  exact absurd (blk_ty h.blk h2) (by decide)
theorem MemW.r_e (h : MemW w g ma mf v sl t L A p) {k r : Nat} (hk : k < 64) (hr : (v k).ownBlock = some r) (he : e ∈ A) : r ≠ e.b := by
  obtain ⟨cur, h2⟩ := row_blk (h.row k hk) hr
  obtain ⟨cs, h3⟩ := h.ent_blk he
  rintro rfl
  exact absurd (blk_ty h3 h2) (by decide)
theorem MemW.r_m (h : MemW w g ma mf v sl t L A p) {k r : Nat} (hk : k < 64) (hr : (v k).ownBlock = some r) : r ≠ ma ∧ r ≠ mf := by
  obtain ⟨cur, h2⟩ := row_blk (h.row k hk) hr
  exact ⟨blk_map h2 h.am, blk_map h2 h.fm⟩
/-- An entry that stands nowhere gets another number. -/
theorem MemW.mark (h : MemW w g ma mf v sl t L A p) (hA : AOk A) (he : e ∈ A) (hp : p e = false) (j : Nat) (hj : j ≤ 1000) : MemW (w.setRow e.b (enC e j)) g ma mf v sl t L A p ∧ Only (Foot g ma mf v A) w (w.setRow e.b (enC e j)) ∧ Sp.Blk (w.setRow e.b (enC e j)) e.b 77 (enC e j) := by
  obtain ⟨cs, h2⟩ := h.ent_blk he
  have hB := h2.row (enC e j)
  obtain ⟨q1, q2, q3, q4, q5, q6⟩ := h.part (w' := w.setRow e.b (enC e j)) (fun b => b = e.b) (fun b _ hb => setRow_other _ _ _ _ hb)
  refine ⟨{ blk := q1 (h.g_e he), am := q2 (h.e_m he).1.symm, fm := q3 (h.e_m he).2.symm, ne := h.ne, ent := fun a ha => ?_, row := fun k hk => q5 k hk (fun b hb => h.r_e hk hb he), at_ := fun k hk i a hi => ?_, per := h.per, own := h.own }, (Only.refl _ _).setRow (.inl (.inr (.inr (.inr (.inl ⟨e, he, rfl⟩))))) _, hB⟩
  · by_cases e1 : a.b = e.b
    · have := nodup_inj hA.b ha he e1
      subst this
      exact ⟨j, hj, hB⟩
    · exact q4 a ha e1
  · have h3 := (h.in_sl hk).1 (List.mem_of_getElem? hi)
    refine q6 k hk i a hi (fun e1 => ?_)
    have := nodup_inj hA.b h3.1 he e1
    subst this
    rw [hp] at h3
    cases h3.2.1
/-- The picks behind one more, or one less. -/
theorem slP_put (hA : AOk A) (he : e ∈ A) (hp : p e = false) {k : Nat} : (ix t e.n = k → (A.filter (slP t (fun x => p x || x.b == e.b) k)).Perm (e :: A.filter (slP t p k))) ∧ (ix t e.n ≠ k → A.filter (slP t (fun x => p x || x.b == e.b) k) = A.filter (slP t p k)) := by
  refine ⟨fun hk => filter_put hA.b he (by simp [hp]) (by simp [hk]) fun x hx hne => ?_, fun hk => List.filter_congr fun x hx => ?_⟩
  · have : (x.b == e.b) = false := by simpa using fun e1 => hne (nodup_inj hA.b hx he e1)
    simp [slP, this]
  · by_cases e1 : x.b = e.b
    · have := nodup_inj hA.b hx he e1
      subst this
      simp [slP, hk]
    · have e2 : (x.b == e.b) = false := by simpa using e1
      simp [slP, e2]
theorem slP_take (hA : AOk A) (he : e ∈ A) (hp : p e = true) {k : Nat} : (ix t e.n = k → (A.filter (slP t p k)).Perm (e :: A.filter (slP t (fun x => p x && !(x.b == e.b)) k))) ∧ (ix t e.n ≠ k → A.filter (slP t (fun x => p x && !(x.b == e.b)) k) = A.filter (slP t p k)) := by
  refine ⟨fun hk => filter_put hA.b he (by simp) (by simp [hk, hp]) fun x hx hne => ?_, fun hk => List.filter_congr fun x hx => ?_⟩
  · have : (x.b == e.b) = false := by simpa using fun e1 => hne (nodup_inj hA.b hx he e1)
    simp [slP, this]
  · by_cases e1 : x.b = e.b
    · have := nodup_inj hA.b hx he e1
      subst this
      simp [slP, hk]
    · have e2 : (x.b == e.b) = false := by simpa using e1
      simp [slP, e2]
/-- An entry behind the others of its slot. -/
theorem MemW.push (h : MemW w g ma mf v sl t L A p) (hA : AOk A) (he : e ∈ A) (hp : p e = false) {k : Nat} (hk : k < 64) (hx : ix t e.n = k) (hm : Sp.Blk w e.b 77 (enC e (sl k).length)) :
    ∃ v' W5, (Builtin.append_ #[62, 62] 62 #[v k, .slice (some ⟨w.heap.size, 0, none⟩) 1 1]).run Try.prog (w.alloc (.cells #[e.ptr] 75)) = .ok v' W5 ∧ Sp.Blk W5 g 66 (whC t ma mf v) ∧
      MemW (W5.setRow g (whC t ma mf (upd v k v'))) g ma mf (upd v k v') (upd sl k (sl k ++ [e])) t L A (fun x => p x || x.b == e.b) ∧ Only (Foot g ma mf v A) w (W5.setRow g (whC t ma mf (upd v k v'))) ∧ ∀ b, Foot g ma mf (upd v k v') A b → Foot g ma mf v A b ∨ w.heap.size ≤ b := by
  obtain ⟨i0, hi0, hz0, hz1, hz2⟩ := info_parts pptr_infos
  have hlen := h.len hA.n hk
  have hbb : ((sl k).length + 1) * 8 ≤ 140737488355328 := by omega
  obtain ⟨v5, W5, hrun, own5, g5, _, hat5⟩ := run_append_own_at (P := Try.prog) (w.alloc (.cells #[e.ptr] 75)) 0 62 62 75 i0 _ 1 8 Try.underlying62 hi0 hz0 hz1 hz2 rfl (by decide) (v k) (sl k).length ((sl k).map En.ptr) ((h.row k hk).alloc _) ⟨w.heap.size, 0, none⟩ 1 1 [e.ptr] rfl
    (new_cells w 75 [e.ptr]) (by intro u hu; simp only [List.mem_singleton] at hu; subst hu; rfl) (by unfold maxLen; omega) hbb (Nat.zero_le _)
  have hsz : (w.alloc (.cells #[e.ptr] 75)).heap.size = w.heap.size + 1 := by simp
  have hsame5 : ∀ b, b < w.heap.size → (v k).ownBlock ≠ some b → W5.heap[b]? = w.heap[b]? := fun b hb hne => (g5.block b (by rw [hsz]; omega) (fun e1 => hne e1.symm)).trans (Below.heap_alloc _ _ _ hb)
  have hsame : ∀ cs b, b < w.heap.size → (v k).ownBlock ≠ some b → b ≠ g → (W5.setRow g cs).heap[b]? = w.heap[b]? := fun cs b hb hne hg => (setRow_other _ _ _ _ hg).trans (hsame5 b hb hne)
  have hB5 : Sp.Blk W5 g 66 (whC t ma mf v) := (hsame5 g h.blk.lt (fun e1 => h.r_g hk e1 rfl)).trans h.blk
  have hv5 : ∀ b, v5.ownBlock = some b → (v k).ownBlock = some b ∨ w.heap.size ≤ b := fun b hb => by
    rcases hat5 with e1 | e1
    · left; rw [← e1]; exact hb
    · right; rw [e1] at hb; injection hb with hb; rw [hsz] at hb; omega
  refine ⟨v5, W5, hrun, hB5, ?_, ?_, ?_⟩
  · obtain ⟨q1, q2, q3, q4, q5, q6⟩ := h.part (w' := W5.setRow g (whC t ma mf (upd v k v5))) (fun b => b = g ∨ (v k).ownBlock = some b) (fun b hf hb => hsame _ b (h.lt b hf) (fun e1 => hb (.inr e1)) (fun e1 => hb (.inl e1)))
    have hle : ∀ a ∈ A, ¬ (a.b = g ∨ (v k).ownBlock = some a.b) := fun a ha => by
      rintro (e1 | e1)
      · exact h.g_e ha e1.symm
      · exact h.r_e hk e1 ha rfl
    refine { blk := hB5.row _, am := q2 ?_, fm := ?_, ne := h.ne, ent := fun a ha => q4 a ha (hle a ha), row := fun j hj => ?_, at_ := fun j hj i a hi => ?_, per := fun j hj => ?_, own := fun j j' hj hj' hne b hb => ?_ }
    · rintro (e1 | e1)
      · exact h.g_m.1 e1.symm
      · exact (h.r_m hk e1).1 rfl
    · rw [(slP_put hA he hp).2 (by omega)]
      refine q3 ?_
      rintro (e1 | e1)
      · exact h.g_m.2 e1.symm
      · exact (h.r_m hk e1).2 rfl
    · by_cases e1 : j = k
      · subst e1
        rw [upd_at, upd_at, List.length_append, List.map_append]
        refine own_same own5 fun b hb => setRow_other _ _ _ _ fun e1 => ?_
        obtain ⟨cur, h2⟩ := row_blk own5 hb
        subst e1
        exact absurd (blk_ty hB5 h2) (by decide)
      · rw [upd_ne e1, upd_ne e1]
        refine q5 j hj fun b hb => ?_
        rintro (e2 | e2)
        · exact h.r_g hj hb e2
        · exact h.own k j hk hj (fun e3 => e1 e3.symm) b e2 hb
    · by_cases e1 : j = k
      · subst e1
        rw [upd_at] at hi
        rcases Nat.lt_or_ge i (sl j).length with h2 | h2
        · rw [List.getElem?_append_left h2] at hi
          exact q6 j hj i a hi (hle a ((h.in_sl hj).1 (List.mem_of_getElem? hi)).1)
        · rw [List.getElem?_append_right h2] at hi
          have h0 : i - (sl j).length = 0 := by
            rcases Nat.eq_zero_or_pos (i - (sl j).length) with e2 | e2
            · exact e2
            · rw [List.getElem?_eq_none (by simp; omega)] at hi; cases hi
          rw [h0] at hi
          injection hi with hi
          subst hi
          rw [show i = (sl j).length by omega]
          exact (hsame _ e.b hm.lt (fun e2 => h.r_e hj e2 he rfl) (h.g_e he).symm).trans hm
      · rw [upd_ne e1] at hi
        exact q6 j hj i a hi (hle a ((h.in_sl hj).1 (List.mem_of_getElem? hi)).1)
    · by_cases e1 : j = k
      · subst e1
        rw [upd_at]
        have h2 := (slP_put hA he hp).1 hx
        exact ((List.perm_append_comm (l₁ := sl j) (l₂ := [e])).trans ((h.per j hj).cons e)).trans h2.symm
      · rw [upd_ne e1, (slP_put hA he hp).2 (by omega)]
        exact h.per j hj
    · by_cases e1 : j = k
      · subst e1
        rw [upd_at] at hb
        rw [upd_ne (fun e2 => hne e2.symm)]
        rcases hv5 b hb with e2 | e2
        · exact h.own j j' hj hj' hne b e2
        · intro e3
          have := ((h.row j' hj').lt b e3).2
          omega
      · rw [upd_ne e1] at hb
        by_cases e2 : j' = k
        · subst e2
          rw [upd_at]
          intro e3
          rcases hv5 b e3 with e4 | e4
          · exact h.own j j' hj hj' hne b hb e4
          · have := ((h.row j hj).lt b hb).2
            omega
        · rw [upd_ne e2]
          exact h.own j j' hj hj' hne b hb
  · refine (((Only.refl _ _).alloc _).grown g5 (fun r hr => .inl (.inr (.inr (.inr (.inr ⟨k, hk, hr⟩)))))).setRow (.inl (.inl rfl)) _
  · rintro b (h1 | h1 | h1 | h1 | ⟨j, hj, h1⟩)
    · exact .inl (.inl h1)
    · exact .inl (.inr (.inl h1))
    · exact .inl (.inr (.inr (.inl h1)))
    · exact .inl (.inr (.inr (.inr (.inl h1))))
    · by_cases e1 : j = k
      · subst e1
        rw [upd_at] at h1
        rcases hv5 b h1 with e2 | e2
        · exact .inl (.inr (.inr (.inr (.inr ⟨j, hj, e2⟩))))
        · exact .inr e2
      · rw [upd_ne e1] at h1
        exact .inl (.inr (.inr (.inr (.inr ⟨j, hj, h1⟩))))
/-- One of the two maps has turned. -/
theorem MemW.turned (h : MemW w g ma mf v sl t L A p) {m : Nat} (hm : m = ma ∨ m = mf) (hg : w.grownBy w' (some m)) {L' : List En} {p' : En → Bool} (ha : MapL w' ma L') (hf : MapL w' mf (A.filter (slP t p' 64))) (hp : ∀ k, k < 64 → A.filter (slP t p' k) = A.filter (slP t p k)) :
    MemW w' g ma mf v sl t L' A p' ∧ Only (Foot g ma mf v A) w w' := by
  have hmm : ∀ b, (∃ cs T, Sp.Blk w b T cs) → b ≠ m := by
    rintro b ⟨cs, T, h1⟩
    rcases hm with rfl | rfl
    · exact blk_map h1 h.am
    · exact blk_map h1 h.fm
  obtain ⟨q1, q2, q3, q4, q5, q6⟩ := h.part (w' := w') (fun b => b = m) (fun b hf hb => hg.block b (h.lt b hf) (fun e1 => hb (by injection e1)))
  refine ⟨{ blk := q1 (hmm g ⟨_, _, h.blk⟩), am := ha, fm := hf, ne := h.ne, ent := fun a ha => q4 a ha (hmm _ (by obtain ⟨z, _, h2⟩ := h.ent a ha; exact ⟨_, _, h2⟩)), row := fun k hk => q5 k hk fun b hb => hmm b (by obtain ⟨cur, h2⟩ := row_blk (h.row k hk) hb; exact ⟨_, _, h2⟩), at_ := fun k hk j e hj => q6 k hk j e hj (hmm _ ⟨_, _, h.at_ k hk j e hj⟩), per := fun k hk => by rw [hp k hk]; exact h.per k hk, own := h.own }, (Only.refl _ _).grown hg (fun k hk => ?_)⟩
  injection hk with hk
  subst hk
  rcases hm with rfl | rfl
  · exact .inl (.inr (.inl rfl))
  · exact .inl (.inr (.inr (.inl rfl)))
theorem map_put {b : Nat} (h : MapL w b L) (hn : L.length ≤ 400) (hi : e.t.i.size ≤ 1000) (hk : ∀ a ∈ L, a.key ≠ e.key) : ∃ w', (Instr.mapUpdate 61 (.map (some b)) (.string e.t.i) e.ptr).run Try.prog w = .ok () w' ∧ MapL w' b (e :: L) ∧ w.grownBy w' (some b) := by
  obtain ⟨D, hD, hMD⟩ := h
  obtain ⟨w', hrun, h1, h2⟩ := hD.store (t := 61) strK Try.underlying61 (by unfold maxLen; omega) (key_str hi) (val := e.ptr) (d := .held e.b) (ps := []) rfl
  exact ⟨w', hrun, MapL.mk h1 (hMD.put (hD.tidy strK) hk), h2.grown⟩
theorem map_del {b : Nat} {L' : List En} (h : MapL w b L) (hL : L.Perm (e :: L')) (hi : e.t.i.size ≤ 1000) (hk : ∀ a ∈ L', a.key ≠ e.key) (ty : TypeId) : ∃ w', (Builtin.delete_ #[61, 9] ty #[.map (some b), .string e.t.i]).run Try.prog w = .ok (.tuple #[]) w' ∧ MapL w' b L' ∧ w.grownBy w' (some b) := by
  obtain ⟨D, hD, hMD⟩ := h
  obtain ⟨w', hrun, h1, h2⟩ := hD.drop (t := 61) strK Try.underlying61 (key_str hi) ty
  exact ⟨w', hrun, MapL.mk h1 ((hMD.perm hL).del (hD.tidy strK) hk), h2.grown⟩
theorem MemW.farput (h : MemW w g ma mf v sl t L A p) (hA : AOk A) (he : e ∈ A) (hp : p e = false) (hx : ix t e.n = 64) :
    ∃ w', (Instr.mapUpdate 61 (.map (some mf)) (.string e.t.i) e.ptr).run Try.prog w = .ok () w' ∧ MemW w' g ma mf v sl t L A (fun x => p x || x.b == e.b) ∧ Only (Foot g ma mf v A) w w' := by
  have hn : (A.filter (slP t p 64)).length ≤ 400 := by have := List.length_filter_le (slP t p 64) A; have := hA.n; omega
  obtain ⟨w', hrun, h1, h2⟩ := map_put h.fm hn (hA.i e he) (fun a ha e1 => by
    obtain ⟨h3, h4⟩ := List.mem_filter.1 ha
    have := nodup_inj hA.k h3 he e1
    subst this
    simp [hp] at h4)
  obtain ⟨q1, q2⟩ := h.turned (.inr rfl) h2 (L' := L) (p' := fun x => p x || x.b == e.b) (h.am.same (h2.block ma (h.lt ma (.inr (.inl rfl))) (fun e1 => h.ne (by injection e1)))) (h1.perm ((slP_put hA he hp).1 hx).symm) (fun k hk => (slP_put hA he hp).2 (by omega))
  exact ⟨w', hrun, q1, q2⟩
theorem MemW.fardel (h : MemW w g ma mf v sl t L A p) (hA : AOk A) (he : e ∈ A) (hp : p e = true) (hx : ix t e.n = 64) (ty : TypeId) :
    ∃ w', (Builtin.delete_ #[61, 9] ty #[.map (some mf), .string e.t.i]).run Try.prog w = .ok (.tuple #[]) w' ∧ MemW w' g ma mf v sl t L A (fun x => p x && !(x.b == e.b)) ∧ Only (Foot g ma mf v A) w w' := by
  obtain ⟨w', hrun, h1, h2⟩ := map_del h.fm ((slP_take hA he hp).1 hx) (hA.i e he) (fun a ha e1 => by
    obtain ⟨h3, h4⟩ := List.mem_filter.1 ha
    have := nodup_inj hA.k h3 he e1
    subst this
    simp at h4) ty
  obtain ⟨q1, q2⟩ := h.turned (.inr rfl) h2 (L' := L) (p' := fun x => p x && !(x.b == e.b)) (h.am.same (h2.block ma (h.lt ma (.inr (.inl rfl))) (fun e1 => h.ne (by injection e1)))) h1 (fun k hk => (slP_take hA he hp).2 (by omega))
  exact ⟨w', hrun, q1, q2⟩
theorem MemW.alldel (h : MemW w g ma mf v sl t L A p) (hA : AOk A) (he : e ∈ A) {L' : List En} (hL : L.Perm (e :: L')) (hk : ∀ a ∈ L', a.key ≠ e.key) (ty : TypeId) :
    ∃ w', (Builtin.delete_ #[61, 9] ty #[.map (some ma), .string e.t.i]).run Try.prog w = .ok (.tuple #[]) w' ∧ MemW w' g ma mf v sl t L' A p ∧ Only (Foot g ma mf v A) w w' := by
  obtain ⟨w', hrun, h1, h2⟩ := map_del h.am hL (hA.i e he) hk ty
  obtain ⟨q1, q2⟩ := h.turned (.inl rfl) h2 (L' := L') (p' := p) h1 (h.fm.same (h2.block mf (h.lt mf (.inr (.inr (.inl rfl)))) (fun e1 => h.ne (by injection e1 with e1; exact e1.symm)))) (fun k hk => rfl)
  exact ⟨w', hrun, q1, q2⟩
end
end Go.Proofs.Ytogfpakopckfoaa.Wl
