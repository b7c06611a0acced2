/- What becomes of a plain index that is told, where the records of a segment leave, one after the other. -/
import Derived.Test.YtjdkgkllgapgjaaPxM
namespace Go.Proofs.Ytjdkgkllgapgjaa.Px
open Go.RowKit Go.Lib Go.Maps
open Re (Rec Key new_cells rcA isL below_drewN key_total)
open Ix
open Sp
set_option linter.unusedVariables false
set_option linter.unusedSimpArgs false
set_option maxRecDepth 100000

theorem Ent.of {t t' : St} {L : List Nw} (h : Ent t L) (e1 : t'.nw = t.nw) (e2 : t'.q = t.q) (e3 : t'.nn = t.nn) (e4 : t'.nl = t.nl) (e5 : t'.nz = t.nz) (e6 : t'.lv = t.lv) : Ent t' L := by
  refine ⟨?_, ?_, ?_, ?_, ?_⟩
  · rw [e1]; exact h.nw
  · rw [e2, e3]; exact h.nn
  · rw [e2, e4]; exact h.nl
  · rw [e2, e5]; exact h.nz
  · rw [e6]; exact h.lv
theorem Ent.leave {t : St} {S : List Std} {L : List Nw} (h : Ent t L) (hu : Up L) (hU : Uq S) (hst : ∀ a ∈ L, ∃ c ∈ S, c.i = a.i ∧ c.s = a.s ∧ c.p = a.p) {c : Std} (hc : c ∈ S) (hq : ∀ a ∈ L, (t.q a.s).isSome = true) :
    Ent (levT t c.i c.s c.p) (offL1 c.s c.p L) := by
  have G := lev2_is t c.i c.s c.p
  have h2 : Ent (lev2 t c.i c.s c.p) L := h.of G.2.1 G.2.2.2.1 G.2.2.2.2.1 G.2.2.2.2.2.1 G.2.2.2.2.2.2.1 G.2.2.2.2.2.2.2
  have hat : ∀ a ∈ L, a.s = c.s → a.p = c.p → a.key = c.key := fun a ha e1 e2 => by
    obtain ⟨d, hd, q1, q2, q3⟩ := hst a ha
    have := uq_one hU hd hc ⟨q2.trans e1, q3.trans e2⟩
    subst this
    unfold Nw.key Std.key
    rw [q1]
  unfold levT
  cases hn : t.nw c.i.toList with
  | none =>
    have h3 := fnd_none (x := ⟨[], L⟩).1 ((h.nw _).symm.trans hn)
    simp only
    rw [show offL1 c.s c.p L = L from List.filter_eq_self.2 fun a ha => by
      simp only [Bool.not_eq_true', Bool.and_eq_false_iff, decide_eq_false_iff_not]
      by_cases e : a.s = c.s
      · right; exact fun e2 => h3 a ha (hat a ha e e2)
      · left; exact e]
    exact h2
  | some a =>
    obtain ⟨ha, hk⟩ := fnd_some (x := ⟨[], L⟩) ((h.nw _).symm.trans hn)
    simp only
    by_cases hp : a.s = c.s ∧ a.p = c.p
    · rw [if_pos hp]
      rw [show offL1 c.s c.p L = rem c.i.toList L from List.filter_congr fun b hb => by
        by_cases e : b.key = c.i.toList
        · have : b = a := up_one hu hb ha (e.trans hk.symm)
          subst this
          simp [hp.1, hp.2, e]
        · have : ¬ (b.s = c.s ∧ b.p = c.p) := fun e2 => e (hat b hb e2.1 e2.2)
          by_cases e2 : b.s = c.s
          · have e3 : ¬ b.p = c.p := fun e3 => this ⟨e2, e3⟩
            simp [e, e3]
          · simp [e, e2]]
      exact h2.unset hu _ (fun b hb => by rw [G.2.2.2.1]; exact hq b hb)
    · rw [if_neg hp]
      rw [show offL1 c.s c.p L = L from List.filter_eq_self.2 fun b hb => by
        simp only [Bool.not_eq_true', Bool.and_eq_false_iff, decide_eq_false_iff_not]
        by_cases e : b.s = c.s
        · right
          intro e2
          have : b = a := up_one hu hb ha ((hat b hb e e2).trans hk.symm)
          subst this
          exact hp ⟨e, e2⟩
        · left; exact e]
      exact h2
theorem Stn.levT {t : St} {S : List Std} {ex : Int → Prop} (h : Stn t S ex) (hU : Uq S) {c : Std} (hc : c ∈ S) (hx : ex c.s) : Stn (levT t c.i c.s c.p) (offS1 c.s c.p S) ex := by
  have h2 := h.leave hU hc hx
  unfold Px.levT
  cases t.nw c.i.toList with
  | none => exact h2
  | some a =>
    simp only
    split
    · exact h2.unset _
    · exact h2
theorem lev_g (t : St) (i : ByteArray) (s p : Int) : (levT t i s p).g = t.g ∧ (levT t i s p).q = t.q ∧ (levT t i s p).sl = t.sl := by
  have G := lev2_is t i s p
  have hsl : (lev2 t i s p).sl = t.sl := by unfold lev2; split <;> rfl
  unfold levT
  cases t.nw i.toList with
  | none => exact ⟨G.1, G.2.2.2.1, hsl⟩
  | some a =>
    simp only
    split
    · have U := uns_g (lev2 t i s p) i.toList
      exact ⟨U.1.trans G.1, U.2.1.trans G.2.2.2.1, U.2.2.2.2.1.trans hsl⟩
    · exact ⟨G.1, G.2.2.2.1, hsl⟩
theorem Stn.weak {t : St} {S : List Std} (h : Stn t S noX) (s : Int) (hq : (t.q s).isSome = true) : Stn t S (fun z => z = s) :=
  ⟨h.fp, h.fpn, h.rg, fun z _ => h.q z id, fun z hz => by rw [hz]; exact hq, fun z _ => h.sl z id, fun z k _ => h.sc z k id, h.fc⟩
theorem Stn.gone {t : St} {S : List Std} {s : Int} (h : Stn t S (fun z => z = s)) (hno : ∀ a ∈ S, ¬ a.s = s) : Stn (t.qD s) S noX := by
  have hq : ∀ z, z ≠ s → (t.qD s).q z = t.q z := fun z hz => up_ne hz
  refine ⟨h.fp, h.fpn, h.rg, fun z _ => ?_, fun z hz => absurd hz id, fun z _ hz => ?_, fun z k _ hz => ?_, h.fc⟩
  · by_cases e : z = s
    · subst e
      constructor
      · intro h1
        change (up t.q z none z).isSome = true at h1
        rw [up_at] at h1
        cases h1
      · rintro ⟨a, ha, e⟩
        exact absurd e (hno a ha)
    · rw [hq z e]
      exact h.q z e
  · by_cases e : z = s
    · subst e
      change (up t.q z none z).isSome = true at hz
      rw [up_at] at hz
      cases hz
    · rw [hq z e] at hz
      exact h.sl z e hz
  · by_cases e : z = s
    · subst e
      change (up t.q z none z).isSome = true at hz
      rw [up_at] at hz
      cases hz
    · rw [hq z e] at hz
      exact h.sc z k e hz
theorem Ent.gone {t : St} {L : List Nw} (h : Ent t L) (s : Int) : Ent (t.qD s) L := by
  have hq : ∀ z, ((t.qD s).q z).isSome = true → (t.q z).isSome = true := fun z hz => by
    by_cases e : z = s
    · subst e
      change (up t.q z none z).isSome = true at hz
      rw [up_at] at hz
      cases hz
    · change (up t.q s none z).isSome = true at hz
      rw [up_ne e] at hz
      exact hz
  exact ⟨h.nw, fun z hz => h.nn z (hq z hz), fun z hz => h.nl z (hq z hz), fun z hz => h.nz z (hq z hz), h.lv⟩
/-! ### One after the other -/
def offs (s : Int) (l : List Int) (S : List Std) : List Std := S.filter fun a => !(decide (a.s = s) && decide (a.p ∈ l))
def offsL (s : Int) (l : List Int) (L : List Nw) : List Nw := L.filter fun a => !(decide (a.s = s) && decide (a.p ∈ l))
theorem offs_nil (s : Int) (S : List Std) (L : List Nw) : offs s [] S = S ∧ offsL s [] L = L := ⟨List.filter_eq_self.2 fun a _ => by simp, List.filter_eq_self.2 fun a _ => by simp⟩
theorem offs_step (s p : Int) (l : List Int) (S : List Std) (L : List Nw) : offs s (l ++ [p]) S = offS1 s p (offs s l S) ∧ offsL s (l ++ [p]) L = offL1 s p (offsL s l L) := by
  unfold offs offS1 offsL offL1
  rw [List.filter_filter, List.filter_filter]
  constructor
  · refine List.filter_congr fun a _ => ?_
    by_cases h1 : a.s = s <;> by_cases h2 : a.p = p <;> by_cases h3 : a.p ∈ l <;> simp [isAt, h1, h2, h3]
  · refine List.filter_congr fun a _ => ?_
    by_cases h1 : a.s = s <;> by_cases h2 : a.p = p <;> by_cases h3 : a.p ∈ l <;> simp [h1, h2, h3]
theorem offs_all {x : Idx} (hst : ∀ a ∈ x.L, ∃ c ∈ x.S, c.i = a.i ∧ c.s = a.s ∧ c.p = a.p) (s : Int) : (⟨offs s (slots x.S s) x.S, offsL s (slots x.S s) x.L⟩ : Idx) = goneX x s := by
  have hin : ∀ c ∈ x.S, c.s = s → c.p ∈ slots x.S s := fun c hc e => List.mem_map.2 ⟨c, List.mem_filter.2 ⟨hc, by simpa using e⟩, rfl⟩
  unfold goneX offs offsL
  congr 1
  · refine List.filter_congr fun a ha => ?_
    by_cases h1 : a.s = s
    · simp [h1, hin a ha h1]
    · simp [h1]
  · refine List.filter_congr fun a ha => ?_
    by_cases h1 : a.s = s
    · obtain ⟨c, hc, _, h2, h3⟩ := hst a ha
      have := hin c hc (h2.trans h1)
      rw [h3] at this
      simp [h1, this]
    · simp [h1]
theorem slots_nodup {S : List Std} (h : Uq S) (s : Int) : (slots S s).Nodup := by
  unfold slots
  rw [List.Nodup, List.pairwise_map, List.pairwise_filter]
  refine h.imp ?_
  intro a b hab ha hb e
  simp only [decide_eq_true_eq] at ha hb
  exact hab ⟨ha.trans hb.symm, e⟩
theorem slots_at {S : List Std} (h : Uq S) {s p : Int} {j : Nat} (hj : (slots S s)[j]? = some p) : ∃ c ∈ offs s ((slots S s).take j) S, c.s = s ∧ c.p = p := by
  have hm := List.mem_of_getElem? hj
  obtain ⟨c, hc, rfl⟩ := List.mem_map.1 hm
  obtain ⟨h1, h2⟩ := List.mem_filter.1 hc
  simp only [decide_eq_true_eq] at h2
  refine ⟨c, List.mem_filter.2 ⟨h1, ?_⟩, h2, rfl⟩
  have hn : c.p ∉ (slots S s).take j := by
    have hnd := slots_nodup h s
    have hlt := (List.getElem?_eq_some_iff.1 hj).1
    have hs : slots S s = (slots S s).take j ++ c.p :: (slots S s).drop (j + 1) := by
      have h7 := List.drop_eq_getElem_cons hlt
      rw [(List.getElem?_eq_some_iff.1 hj).2] at h7
      rw [← h7, List.take_append_drop]
    rw [hs] at hnd
    have h5 := (List.nodup_append.1 hnd).2.2
    intro h6
    exact h5 _ h6 _ (List.mem_cons_self ..) rfl
  simp [hn]
theorem gone_len (x : Idx) (s : Int) : goneN x s = (slots x.S s).length := by
  unfold goneN goneX slots
  rw [List.length_map]
  simp only
  have := List.length_eq_countP_add_countP (fun a : Std => decide (a.s = s)) (l := x.S)
  rw [List.countP_eq_length_filter, List.countP_eq_length_filter] at this
  have h2 : (x.S.filter fun a => decide (¬ decide (a.s = s) = true)) = x.S.filter fun a => decide (a.s ≠ s) := List.filter_congr fun a _ => by simp
  rw [h2] at this
  omega
end Go.Proofs.Ytjdkgkllgapgjaa.Px
