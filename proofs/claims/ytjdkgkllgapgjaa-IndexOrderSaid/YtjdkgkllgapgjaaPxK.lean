/- What becomes of a plain index that is told, where a record comes to stand, or leaves. -/
import Derived.Test.YtjdkgkllgapgjaaPxJ
namespace Go.Proofs.Ytjdkgkllgapgjaa.Px
open Go.RowKit Go.Lib Go.Maps
open Re (Rec Key new_cells rcA isL below_drewN key_total)
open Ix
open Sp
set_option linter.unusedVariables false
set_option linter.unusedSimpArgs false
set_option maxRecDepth 100000

abbrev noX : Int → Prop := fun _ => False
theorem Stn.of {t t' : St} {S : List Std} {ex : Int → Prop} (h : Stn t S ex) (e1 : t'.fp = t.fp) (e2 : t'.q = t.q) (e3 : t'.sl = t.sl) (e4 : t'.sc = t.sc) (e5 : t'.fc = t.fc) : Stn t' S ex := by
  refine ⟨?_, ?_, h.rg, ?_, ?_, ?_, ?_, ?_⟩
  · rw [e1]; exact h.fp
  · rw [e1]; exact h.fpn
  · rw [e2]; exact h.q
  · rw [e2]; exact h.qx
  · rw [e2, e3]; exact h.sl
  · rw [e2, e4]; exact h.sc
  · rw [e5]; exact h.fc
theorem uns_g (t : St) (k : Key) : (unsT t k).g = t.g ∧ (unsT t k).q = t.q ∧ (unsT t k).fp = t.fp ∧ (unsT t k).fc = t.fc ∧ (unsT t k).sl = t.sl ∧ (unsT t k).sc = t.sc := by
  unfold unsT
  cases t.nw k with
  | none => exact ⟨rfl, rfl, rfl, rfl, rfl, rfl⟩
  | some a =>
    have G := reck_g t a (-1)
    exact ⟨G.1, G.2.2.1, G.2.2.2.2.1, G.2.2.2.2.2.1, G.2.2.2.2.2.2.1, G.2.2.2.2.2.2.2⟩
theorem set_g (t : St) (k : Key) (a : Nw) : (setT t k a).g = t.g ∧ (setT t k a).q = t.q ∧ (setT t k a).fp = t.fp ∧ (setT t k a).fc = t.fc ∧ (setT t k a).sl = t.sl ∧ (setT t k a).sc = t.sc := by
  unfold setT
  have G := reck_g ((unsT t k).nwS k (some a)) a 1
  have U := uns_g t k
  exact ⟨G.1.trans U.1, G.2.2.1.trans U.2.1, G.2.2.2.2.1.trans U.2.2.1, G.2.2.2.2.2.1.trans U.2.2.2.1, G.2.2.2.2.2.2.1.trans U.2.2.2.2.1, G.2.2.2.2.2.2.2.trans U.2.2.2.2.2⟩
theorem Stn.set {t : St} {S : List Std} {ex : Int → Prop} (h : Stn t S ex) (k : Key) (a : Nw) : Stn (setT t k a) S ex := by
  have G := set_g t k a
  exact h.of G.2.2.1 G.2.1 G.2.2.2.2.1 G.2.2.2.2.2 G.2.2.2.1
theorem Stn.unset {t : St} {S : List Std} {ex : Int → Prop} (h : Stn t S ex) (k : Key) : Stn (unsT t k) S ex := by
  have G := uns_g t k
  exact h.of G.2.2.1 G.2.1 G.2.2.2.2.1 G.2.2.2.2.2 G.2.2.2.1
theorem Ent.set {t : St} {L : List Nw} (h : Ent t L) (hu : Up L) (e : Nw) (hq : ∀ a ∈ L, (t.q a.s).isSome = true) (hqe : (t.q e.s).isSome = true) : Ent (setT t e.key e) (setL e L) := by
  unfold setT
  exact Ent.add (h.unset hu e.key hq) hu (by rw [(uns_g t e.key).2.1]; exact hqe)
theorem zL_le (s : Int) (L : List Nw) (h : ∀ a ∈ L, 0 ≤ a.z ∧ a.z ≤ 191) : 0 ≤ zL L s ∧ zL L s ≤ 191 * L.length := by
  induction L with
  | nil => exact ⟨Int.le_refl _, Int.le_refl _⟩
  | cons a L ih =>
    obtain ⟨h1, h2⟩ := ih fun a ha => h a (List.mem_cons_of_mem _ ha)
    have h3 := h a (List.mem_cons_self ..)
    rw [zL_cons, List.length_cons]
    split <;> omega
theorem fine_gen {t : St} {L : List Nw} (h : Ent t L) (hn : L.length ≤ 1000) (hz : ∀ a ∈ L, 0 ≤ a.z ∧ a.z ≤ 191) (e : Nw) (hq : (t.q e.s).isSome = true) (hs : I64 e.s) (hez : 0 ≤ e.z ∧ e.z ≤ 191) (σ : Int) (hσ : σ = 1 ∨ σ = -1) : Fine t e σ := by
  obtain ⟨z1, z2⟩ := zL_le e.s L hz
  have h1 : nL L e.s ≤ L.length := List.countP_le_length
  have h2 : lL L e.s ≤ L.length := List.countP_le_length
  have h3 : L.countP Nw.b ≤ L.length := List.countP_le_length
  refine ⟨Option.isSome_iff_exists.1 hq, hs, by rw [h.nn _ hq]; unfold Sm; omega, by rw [h.nl _ hq]; unfold Sm; omega, by rw [h.nz _ hq]; unfold Sm; omega, by rw [h.lv]; unfold Sm; omega, by unfold Sm; omega, ?_⟩
  unfold Sm
  rcases hσ with rfl | rfl <;> omega
/-! ### A record comes to stand -/
theorem find_app {S : List Std} {s p : Int} (i : ByteArray) (h : S.find? (isAt s p) = none) (s' p' : Int) : (S ++ [(⟨i, s, p⟩ : Std)]).find? (isAt s' p') = if s' = s ∧ p' = p then some ⟨i, s, p⟩ else S.find? (isAt s' p') := by
  rw [List.find?_append]
  by_cases e : s' = s ∧ p' = p
  · obtain ⟨rfl, rfl⟩ := e
    rw [if_pos ⟨rfl, rfl⟩, h]
    simp [isAt]
  · rw [if_neg e]
    have : List.find? (isAt s' p') [(⟨i, s, p⟩ : Std)] = none := by
      rw [List.find?_eq_none]
      intro a ha
      simp only [List.mem_singleton] at ha
      subst ha
      simp only [isAt, Bool.and_eq_true, decide_eq_true_eq]
      exact fun e2 => e ⟨e2.1.symm, e2.2.symm⟩
    rw [this, Option.or_none]
theorem Stn.stand {t t' : St} {S : List Std} (h : Stn t S noX) {i : ByteArray} {s p : Int} (hat : S.find? (isAt s p) = none) (hs : I64 s) (hp : I64 p)
    (f1 : t'.fp = updF t.fp (locK s p) (some (.string i))) (f2 : t'.fc = up t.fc i.toList (some ((t.fc i.toList).getD 0 + 1))) (f3 : (t'.q s).isSome = true) (f4 : ∀ s', s' ≠ s → t'.q s' = t.q s')
    (f5 : ∀ s', s' ≠ s → t'.sl s' = t.sl s') (f6 : ∀ s', s' ≠ s → t'.sc s' = t.sc s') (f7 : t'.sl s = slots S s ++ [p]) (f8 : ∀ k, t'.sc s k = if k = i.toList then some (((cntS S s k : Nat) : Int) + 1) else cnt0 (cntS S s k)) :
    Stn t' (S ++ [⟨i, s, p⟩]) noX := by
  refine ⟨fun s' p' hs' hp' => ?_, fun l hl => ?_, fun a ha => ?_, fun s' _ => ?_, fun s' hx => absurd hx id, fun s' _ hq => ?_, fun s' k _ hq => ?_, fun k => ?_⟩
  · rw [f1, find_app i hat]
    unfold updF
    by_cases e : s' = s ∧ p' = p
    · obtain ⟨rfl, rfl⟩ := e
      rw [if_pos rfl, if_pos ⟨rfl, rfl⟩]
      rfl
    · rw [if_neg fun e2 => e (locK_inj hs' hp' hs hp e2), if_neg e]
      exact h.fp s' p' hs' hp'
  · rw [f1] at hl
    unfold updF at hl
    by_cases e : l = locK s p
    · exact ⟨⟨i, s, p⟩, by simp, e⟩
    · rw [if_neg e] at hl
      obtain ⟨a, ha, hl⟩ := h.fpn l hl
      exact ⟨a, List.mem_append_left _ ha, hl⟩
  · rcases List.mem_append.1 ha with ha | ha
    · exact h.rg a ha
    · simp only [List.mem_singleton] at ha
      subst ha
      exact ⟨hs, hp⟩
  · by_cases e : s' = s
    · subst e
      exact ⟨fun _ => ⟨⟨i, s', p⟩, by simp, rfl⟩, fun _ => f3⟩
    · rw [f4 s' e, h.q s' id]
      constructor
      · rintro ⟨a, ha, h1⟩
        exact ⟨a, List.mem_append_left _ ha, h1⟩
      · rintro ⟨a, ha, h1⟩
        rcases List.mem_append.1 ha with ha | ha
        · exact ⟨a, ha, h1⟩
        · simp only [List.mem_singleton] at ha
          subst ha
          exact absurd h1.symm e
  · by_cases e : s' = s
    · subst e
      rw [f7]
      unfold slots
      rw [List.filter_append, List.map_append]
      simp
    · rw [f5 s' e, h.sl s' id (by rw [← f4 s' e]; exact hq)]
      unfold slots
      rw [List.filter_append, List.filter_cons_of_neg (by simpa using fun e2 => e e2.symm), List.filter_nil, List.append_nil]
  · by_cases e : s' = s
    · subst e
      rw [f8]
      unfold cntS
      rw [List.countP_append]
      by_cases ek : k = i.toList
      · subst ek
        rw [if_pos rfl]
        simp [cnt0, Std.key]
      · rw [if_neg ek]
        simp [Std.key, show ¬ i.toList = k from fun e2 => ek e2.symm]
    · rw [f6 s' e, h.sc s' k id (by rw [← f4 s' e]; exact hq)]
      unfold cntS
      rw [List.countP_append]
      simp [show ¬ s = s' from fun e2 => e e2.symm]
  · rw [f2]
    unfold up cntK
    rw [List.countP_append]
    by_cases ek : k = i.toList
    · subst ek
      rw [if_pos rfl, h.fc, cnt0_get]
      unfold cntK
      simp [cnt0, Std.key]
    · rw [if_neg ek, h.fc]
      unfold cntK
      simp [Std.key, show ¬ i.toList = k from fun e2 => ek e2.symm]
theorem Stn.stand_old {t : St} {S : List Std} (h : Stn t S noX) {i : ByteArray} {s p : Int} (hat : S.find? (isAt s p) = none) (hs : I64 s) (hp : I64 p) {e : Sg} (he : t.q s = some e) (v : Value) :
    Stn (stdB (stdA t i s p) i s p e v) (S ++ [⟨i, s, p⟩]) noX := by
  have hq : (t.q s).isSome = true := by rw [he]; rfl
  refine h.stand hat hs hp rfl rfl (by show (up t.q s _ s).isSome = true; rw [up_at]; rfl) (fun s' hne => up_ne hne) (fun s' hne => up_ne hne) (fun s' hne => ?_) ?_ (fun k => ?_)
  · show (up t.sc s (up (t.sc s) i.toList (some ((t.sc s i.toList).getD 0 + 1)))) s' = _
    exact up_ne hne
  · show up t.sl s (t.sl s ++ [p]) s = _
    rw [up_at, h.sl s id hq]
  · show (up t.sc s (up (t.sc s) i.toList (some ((t.sc s i.toList).getD 0 + 1)))) s k = _
    rw [up_at]
    unfold up
    by_cases ek : k = i.toList
    · subst ek
      rw [if_pos rfl, if_pos rfl, h.sc s _ id hq, cnt0_get]
    · rw [if_neg ek, if_neg ek, h.sc s _ id hq]
theorem Stn.stand_new {t : St} {S : List Std} (h : Stn t S noX) {i : ByteArray} {s p : Int} (hat : S.find? (isAt s p) = none) (hs : I64 s) (hp : I64 p) (he : t.q s = none) (n : Nat) (v : Value) :
    Stn (stdB ((stdA t i s p).newS s n) i s p ⟨n + 1, .slice none 0 0, n⟩ v) (S ++ [⟨i, s, p⟩]) noX := by
  have hno : ∀ a ∈ S, ¬ a.s = s := fun a ha e => by
    have := (h.q s id).2 ⟨a, ha, e⟩
    rw [he] at this
    cases this
  have h0 : slots S s = [] := by
    unfold slots
    rw [List.filter_eq_nil_iff.2 fun a ha => by simpa using hno a ha]
    rfl
  have h1 : ∀ k, cntS S s k = 0 := fun k => List.countP_eq_zero.2 fun a ha => by simp [hno a ha]
  refine h.stand hat hs hp rfl rfl (by show (up (up t.q s _) s _ s).isSome = true; rw [up_at]; rfl) (fun s' hne => ?_) (fun s' hne => ?_) (fun s' hne => ?_) ?_ (fun k => ?_)
  · show up (up t.q s _) s _ s' = _
    rw [up_ne hne, up_ne hne]
  · show up (up t.sl s []) s _ s' = _
    rw [up_ne hne, up_ne hne]
  · show (up (up t.sc s (fun _ => none)) s (up ((up t.sc s (fun _ => none) : Int → Key → Option Int) s) i.toList (some _)) : Int → Key → Option Int) s' = _
    rw [up_ne hne, up_ne hne]
  · show up (up t.sl s []) s ((up t.sl s []) s ++ [p]) s = _
    rw [up_at, up_at, h0]
  · show (up (up t.sc s (fun _ => none)) s (up ((up t.sc s (fun _ => none) : Int → Key → Option Int) s) i.toList (some ((((up t.sc s (fun _ => none) : Int → Key → Option Int) s) i.toList).getD 0 + 1))) : Int → Key → Option Int) s k = _
    rw [up_at, up_at, h1]
    unfold up
    by_cases ek : k = i.toList
    · rw [if_pos ek, if_pos ek]; rfl
    · rw [if_neg ek, if_neg ek]; rfl
theorem Ent.stand_old {t : St} {L : List Nw} (h : Ent t L) {i : ByteArray} {s p : Int} {e : Sg} (he : t.q s = some e) (v : Value) : Ent (stdB (stdA t i s p) i s p e v) L := by
  have hq : ∀ s', ((stdB (stdA t i s p) i s p e v).q s').isSome = true → (t.q s').isSome = true := fun s' h1 => by
    by_cases e1 : s' = s
    · subst e1; rw [he]; rfl
    · change (up t.q s _ s').isSome = true at h1
      rw [up_ne e1] at h1
      exact h1
  exact ⟨h.nw, fun s' hs => h.nn s' (hq s' hs), fun s' hs => h.nl s' (hq s' hs), fun s' hs => h.nz s' (hq s' hs), h.lv⟩
theorem Ent.stand_new {t : St} {L : List Nw} (h : Ent t L) {i : ByteArray} {s p : Int} (hno : ∀ a ∈ L, ¬ a.s = s) (n : Nat) (v : Value) : Ent (stdB ((stdA t i s p).newS s n) i s p ⟨n + 1, .slice none 0 0, n⟩ v) L := by
  have hq : ∀ s', s' ≠ s → ((stdB ((stdA t i s p).newS s n) i s p ⟨n + 1, .slice none 0 0, n⟩ v).q s').isSome = true → (t.q s').isSome = true := fun s' e1 h1 => by
    change (up (up t.q s _) s _ s').isSome = true at h1
    rw [up_ne e1, up_ne e1] at h1
    exact h1
  have h0 : nL L s = 0 := List.countP_eq_zero.2 fun a ha => by simp [hno a ha]
  have h1 : lL L s = 0 := List.countP_eq_zero.2 fun a ha => by simp [hno a ha]
  have h2 : zL L s = 0 := by unfold zL; rw [List.filter_eq_nil_iff.2 fun a ha => by simp [hno a ha]]; rfl
  refine ⟨h.nw, fun s' hs => ?_, fun s' hs => ?_, fun s' hs => ?_, h.lv⟩
  · show up t.nn s 0 s' = _
    by_cases e1 : s' = s
    · subst e1; rw [up_at, h0]; rfl
    · rw [up_ne e1]; exact h.nn s' (hq s' e1 hs)
  · show up t.nl s 0 s' = _
    by_cases e1 : s' = s
    · subst e1; rw [up_at, h1]; rfl
    · rw [up_ne e1]; exact h.nl s' (hq s' e1 hs)
  · show up t.nz s 0 s' = _
    by_cases e1 : s' = s
    · subst e1; rw [up_at, h2]
    · rw [up_ne e1]; exact h.nz s' (hq s' e1 hs)
/-! ### A record leaves -/
def offS1 (s p : Int) (S : List Std) : List Std := S.filter fun a => !(isAt s p a)
def offL1 (s p : Int) (L : List Nw) : List Nw := L.filter fun a => !(decide (a.s = s) && decide (a.p = p))
def Uq (S : List Std) : Prop := S.Pairwise fun a b => ¬ (a.s = b.s ∧ a.p = b.p)
theorem off_perm {S : List Std} (h : Uq S) {c : Std} (hc : c ∈ S) : S.Perm (c :: offS1 c.s c.p S) := by
  induction S with
  | nil => cases hc
  | cons d S ih =>
    obtain ⟨h1, h2⟩ := List.pairwise_cons.1 h
    unfold offS1
    rcases List.mem_cons.1 hc with rfl | hc'
    · rw [List.filter_cons_of_neg (by simp [isAt]), List.filter_eq_self.2 fun x hx => by
        have := h1 x hx
        simp only [isAt, Bool.not_eq_true', Bool.and_eq_false_iff, decide_eq_false_iff_not]
        by_cases e : x.s = c.s
        · right; exact fun e2 => this ⟨e.symm, e2.symm⟩
        · left; exact e]
    · rw [List.filter_cons_of_pos (by
        have := h1 c hc'
        simp only [isAt, Bool.not_eq_true', Bool.and_eq_false_iff, decide_eq_false_iff_not]
        by_cases e : d.s = c.s
        · right; exact fun e2 => this ⟨e, e2⟩
        · left; exact e)]
      exact ((ih h2 hc').cons d).trans (List.Perm.swap c d _)
theorem uq_one {S : List Std} (h : Uq S) {a b : Std} (ha : a ∈ S) (hb : b ∈ S) (e : a.s = b.s ∧ a.p = b.p) : a = b := by
  induction S with
  | nil => cases ha
  | cons c S ih =>
    obtain ⟨h1, h2⟩ := List.pairwise_cons.1 h
    rcases List.mem_cons.1 ha with rfl | ha'
    · rcases List.mem_cons.1 hb with rfl | hb'
      · rfl
      · exact absurd e (h1 b hb')
    · rcases List.mem_cons.1 hb with rfl | hb'
      · exact absurd ⟨e.1.symm, e.2.symm⟩ (h1 a ha')
      · exact ih h2 ha' hb'
theorem find_off (S : List Std) (s p s' p' : Int) : (offS1 s p S).find? (isAt s' p') = if s' = s ∧ p' = p then none else S.find? (isAt s' p') := by
  unfold offS1
  by_cases e : s' = s ∧ p' = p
  · obtain ⟨rfl, rfl⟩ := e
    rw [if_pos ⟨rfl, rfl⟩, List.find?_eq_none]
    intro a ha
    simpa using (List.mem_filter.1 ha).2
  · rw [if_neg e, List.find?_filter]
    congr 1
    funext a
    by_cases h : isAt s' p' a = true
    · have h2 : isAt s p a = false := by
        rw [Bool.eq_false_iff]
        intro h3
        simp only [isAt, Bool.and_eq_true, decide_eq_true_eq] at h h3
        exact e ⟨h.1.symm.trans h3.1, h.2.symm.trans h3.2⟩
      simp [h, h2]
    · simp [h]
theorem Stn.leave {t : St} {S : List Std} {ex : Int → Prop} (h : Stn t S ex) (hU : Uq S) {c : Std} (hc : c ∈ S) (hx : ex c.s) : Stn (lev2 t c.i c.s c.p) (offS1 c.s c.p S) ex := by
  have hp := off_perm hU hc
  have hr := h.rg c hc
  have hsub : ∀ a ∈ offS1 c.s c.p S, a ∈ S := fun a ha => (List.mem_filter.1 ha).1
  have hoff : ∀ a ∈ S, a.s ≠ c.s → a ∈ offS1 c.s c.p S := fun a ha hne => List.mem_filter.2 ⟨ha, by simp [isAt, hne]⟩
  have hfp : (lev2 t c.i c.s c.p).fp = updF t.fp (locK c.s c.p) none := by unfold lev2; split <;> rfl
  have hq : (lev2 t c.i c.s c.p).q = t.q := (lev2_is t c.i c.s c.p).2.2.2.1
  have hsl : (lev2 t c.i c.s c.p).sl = t.sl := by unfold lev2; split <;> rfl
  have hsc : (lev2 t c.i c.s c.p).sc = t.sc := by unfold lev2; split <;> rfl
  have hK : ∀ k, cntK S k = cntK (offS1 c.s c.p S) k + if c.key = k then 1 else 0 := fun k => by
    unfold cntK
    rw [hp.countP_eq, List.countP_cons]
    simp
  refine ⟨fun s' p' hs' hp' => ?_, fun l hl => ?_, fun a ha => h.rg a (hsub a ha), fun s' hn => ?_, fun s' hs' => by rw [hq]; exact h.qx s' hs', fun s' hn hs' => ?_, fun s' k hn hs' => ?_, fun k => ?_⟩
  · rw [hfp, find_off]
    unfold updF
    by_cases e : s' = c.s ∧ p' = c.p
    · obtain ⟨rfl, rfl⟩ := e
      rw [if_pos rfl, if_pos ⟨rfl, rfl⟩]
      rfl
    · rw [if_neg fun e2 => e (locK_inj hs' hp' hr.1 hr.2 e2), if_neg e]
      exact h.fp s' p' hs' hp'
  · rw [hfp] at hl
    unfold updF at hl
    by_cases e : l = locK c.s c.p
    · rw [if_pos e] at hl; exact absurd rfl hl
    · rw [if_neg e] at hl
      obtain ⟨a, ha, hl⟩ := h.fpn l hl
      refine ⟨a, List.mem_filter.2 ⟨ha, ?_⟩, hl⟩
      simp only [isAt, Bool.not_eq_true', Bool.and_eq_false_iff, decide_eq_false_iff_not]
      by_cases e1 : a.s = c.s
      · right; exact fun e2 => e (by rw [hl, e1, e2])
      · left; exact e1
  · have hne : s' ≠ c.s := fun e => hn (by rw [e]; exact hx)
    rw [hq, h.q s' hn]
    constructor
    · rintro ⟨a, ha, rfl⟩
      exact ⟨a, hoff a ha hne, rfl⟩
    · rintro ⟨a, ha, rfl⟩
      exact ⟨a, hsub a ha, rfl⟩
  · have hne : s' ≠ c.s := fun e => hn (by rw [e]; exact hx)
    rw [hq] at hs'
    rw [hsl, h.sl s' hn hs']
    unfold slots offS1
    rw [List.filter_filter]
    congr 1
    refine List.filter_congr fun a _ => ?_
    by_cases e : a.s = s'
    · simp [isAt, e, hne]
    · simp [e]
  · have hne : s' ≠ c.s := fun e => hn (by rw [e]; exact hx)
    rw [hq] at hs'
    rw [hsc, h.sc s' k hn hs']
    unfold cntS
    rw [hp.countP_eq, List.countP_cons, if_neg (by simp [show ¬ c.s = s' from fun e => hne e.symm]), Nat.add_zero]
  · have h1 : (t.fc c.i.toList).getD 0 = (cntK (offS1 c.s c.p S) c.key : Int) + 1 := by
      rw [h.fc, cnt0_get, hK]
      simp [Std.key]
    have hfc : (lev2 t c.i c.s c.p).fc k = if k = c.i.toList then cnt0 (cntK (offS1 c.s c.p S) c.key) else t.fc k := by
      unfold lev2
      rw [h1]
      by_cases hz : (cntK (offS1 c.s c.p S) c.key : Int) + 1 - 1 = 0
      · rw [if_pos hz]
        show up (up t.fc c.i.toList (some _)) c.i.toList none k = _
        unfold up
        by_cases ek : k = c.i.toList
        · rw [if_pos ek, if_pos ek]
          unfold cnt0
          rw [if_pos (by omega)]
        · rw [if_neg ek, if_neg ek, if_neg ek]
      · rw [if_neg hz]
        show up t.fc c.i.toList (some _) k = _
        unfold up
        by_cases ek : k = c.i.toList
        · rw [if_pos ek, if_pos ek, h1]
          unfold cnt0
          rw [if_neg (by omega)]
          congr 1
          omega
        · rw [if_neg ek, if_neg ek]
    rw [hfc]
    by_cases ek : k = c.i.toList
    · subst ek; rw [if_pos rfl]; rfl
    · rw [if_neg ek, h.fc, hK, if_neg fun e => ek e.symm, Nat.add_zero]
end Go.Proofs.Ytjdkgkllgapgjaa.Px
