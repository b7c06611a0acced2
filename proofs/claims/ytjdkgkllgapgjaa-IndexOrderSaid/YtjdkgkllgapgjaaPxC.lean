/- What becomes of the program's index where one of its parts is written. -/
import Derived.Test.YtjdkgkllgapgjaaPxB
namespace Go.Proofs.Ytjdkgkllgapgjaa.Px
open Go.RowKit Go.Lib Go.Maps
open Re (Rec Key)
open Ix
open Sp
set_option linter.unusedVariables false
set_option linter.unusedSimpArgs false
set_option maxRecDepth 100000

theorem up_map {α β γ : Type} [DecidableEq α] (f : α → Option β) (g : β → γ) (k : α) (o : Option β) (x : α) : (up f k o x).map g = up (fun y => (f y).map g) k (o.map g) x := by
  unfold up
  split <;> rfl
def St.nwS (t : St) (k : Key) (o : Option Nw) : St := { t with nw := up t.nw k o }
def St.fcS (t : St) (k : Key) (o : Option Int) : St := { t with fc := up t.fc k o }
noncomputable def St.fpS (t : St) (l : Lit) (o : Option Value) : St := { t with fp := updF t.fp l o }
def St.scS (t : St) (s : Int) (k : Key) (n : Int) : St := { t with sc := up t.sc s (up (t.sc s) k (some n)) }
def St.lvS (t : St) (n : Int) : St := { t with lv := n }
def St.nnS (t : St) (s n : Int) : St := { t with nn := up t.nn s n }
def St.nlS (t : St) (s n : Int) : St := { t with nl := up t.nl s n }
def St.nzS (t : St) (s n : Int) : St := { t with nz := up t.nz s n }
def St.qD (t : St) (s : Int) : St := { t with q := up t.q s none }
section
variable {W w w' : World} {items : List Sp.Item} {k : Nat} {t : St}
abbrev tyN : TypeId := 56
abbrev tyC : TypeId := 55
abbrev tyP : TypeId := 53
abbrev tyS : TypeId := 54
theorem sF_supp {h : Key → Option Value} {L : List Key} (hL : ∀ k, h k ≠ none → k ∈ L) : ∀ x, sF h x ≠ none → x ∈ L.map Lit.string := by
  intro x hx
  unfold sF at hx
  cases x <;> simp at hx
  exact List.mem_map.2 ⟨_, hL _ hx, rfl⟩
theorem iF_supp {h : Int → Option Value} {L : List Int} (hL : ∀ k, h k ≠ none → k ∈ L) : ∀ x, iF h x ≠ none → x ∈ L.map (Lit.int .i64) := by
  intro x hx
  unfold iF at hx
  split at hx
  · exact List.mem_map.2 ⟨_, hL _ hx, rfl⟩
  · exact absurd rfl hx
theorem map_supp {α β γ : Type} {f : α → Option β} {g : β → γ} {L : List α} (hL : ∀ k, f k ≠ none → k ∈ L) : ∀ k, (f k).map g ≠ none → k ∈ L := fun k hk => hL k fun e => hk (by rw [e]; rfl)
theorem nw_put (h : Sp.Sep W w items) (hk : items[k]? = some (mI t)) {i : ByteArray} (hi : i.size ≤ maxLen) (a : Nw) {L : List Key} (hL : ∀ k, t.nw k ≠ none → k ∈ L) (hn : L.length ≤ 100000) :
    ∃ w', (Instr.mapUpdate tyN (.map (some t.mn)) (.string i) (enV a)).run Try.prog w = .ok () w' ∧ Sp.Sep W w' (items.set k (mI (t.nwS i.toList (some a)))) := by
  have hM := mI_at h hk
  obtain ⟨w', hrun, h1, h2⟩ := MF.put (hM.ok .n) strK Try.underlying56 (key_str hi) (enV a) (sF_supp (map_supp hL)) (by simpa using hn)
  refine ⟨w', hrun, sep_turn h hk .n rfl h2 (fun r => by cases r <;> rfl) (fun r hr hc => by cases r <;> first | exact hc | exact absurd rfl hr) ?_⟩
  exact MF.ext h1 fun x => by rw [sF_up]; unfold sF; cases x <;> first | rfl | exact up_map _ _ _ _ _
theorem nw_del (h : Sp.Sep W w items) (hk : items[k]? = some (mI t)) {i : ByteArray} (hi : i.size ≤ maxLen) :
    ∃ w', (∀ ty, (Builtin.delete_ #[tyN, 9] ty #[.map (some t.mn), .string i]).run Try.prog w = .ok (.tuple #[]) w') ∧ Sp.Sep W w' (items.set k (mI (t.nwS i.toList none))) := by
  have hM := mI_at h hk
  obtain ⟨w', hrun, h1, h2⟩ := MF.del (hM.ok .n) strK Try.underlying56 (key_str hi)
  refine ⟨w', hrun, sep_turn h hk .n rfl h2 (fun r => by cases r <;> rfl) (fun r hr hc => by cases r <;> first | exact hc | exact absurd rfl hr) ?_⟩
  exact MF.ext h1 fun x => by rw [sF_up]; unfold sF; cases x <;> first | rfl | exact up_map _ _ _ _ _
theorem fc_put (h : Sp.Sep W w items) (hk : items[k]? = some (mI t)) {i : ByteArray} (hi : i.size ≤ maxLen) (n : Int) {L : List Key} (hL : ∀ k, t.fc k ≠ none → k ∈ L) (hn : L.length ≤ 100000) :
    ∃ w', (Instr.mapUpdate tyC (.map (some t.mc)) (.string i) (.int .i64 n)).run Try.prog w = .ok () w' ∧ Sp.Sep W w' (items.set k (mI (t.fcS i.toList (some n)))) := by
  have hM := mI_at h hk
  obtain ⟨w', hrun, h1, h2⟩ := MF.put (hM.ok .c) strK Try.underlying55 (key_str hi) (intV n) (sF_supp (map_supp hL)) (by simpa using hn)
  refine ⟨w', hrun, sep_turn h hk .c rfl h2 (fun r => by cases r <;> rfl) (fun r hr hc => by cases r <;> first | exact hc | exact absurd rfl hr) ?_⟩
  exact MF.ext h1 fun x => by rw [sF_up]; unfold sF; cases x <;> first | rfl | exact up_map _ _ _ _ _
theorem fc_del (h : Sp.Sep W w items) (hk : items[k]? = some (mI t)) {i : ByteArray} (hi : i.size ≤ maxLen) :
    ∃ w', (∀ ty, (Builtin.delete_ #[tyC, 9] ty #[.map (some t.mc), .string i]).run Try.prog w = .ok (.tuple #[]) w') ∧ Sp.Sep W w' (items.set k (mI (t.fcS i.toList none))) := by
  have hM := mI_at h hk
  obtain ⟨w', hrun, h1, h2⟩ := MF.del (hM.ok .c) strK Try.underlying55 (key_str hi)
  refine ⟨w', hrun, sep_turn h hk .c rfl h2 (fun r => by cases r <;> rfl) (fun r hr hc => by cases r <;> first | exact hc | exact absurd rfl hr) ?_⟩
  exact MF.ext h1 fun x => by rw [sF_up]; unfold sF; cases x <;> first | rfl | exact up_map _ _ _ _ _
theorem fp_put (h : Sp.Sep W w items) (hk : items[k]? = some (mI t)) {s p : Int} (hs : I64 s) (hp : I64 p) (i : ByteArray) {L : List Lit} (hL : ∀ k, t.fp k ≠ none → k ∈ L) (hn : L.length ≤ 100000) :
    ∃ w', (Instr.mapUpdate tyP (.map (some t.mp)) (locV s p) (.string i)).run Try.prog w = .ok () w' ∧ Sp.Sep W w' (items.set k (mI (t.fpS (locK s p) (some (.string i))))) := by
  have hM := mI_at h hk
  obtain ⟨w', hrun, h1, h2⟩ := MF.put (hM.ok .p) locKd Try.underlying53 (key_loc hs hp) (.string i) hL hn
  exact ⟨w', hrun, sep_turn h hk .p rfl h2 (fun r => by cases r <;> rfl) (fun r hr hc => by cases r <;> first | exact hc | exact absurd rfl hr) h1⟩
theorem fp_del (h : Sp.Sep W w items) (hk : items[k]? = some (mI t)) {s p : Int} (hs : I64 s) (hp : I64 p) :
    ∃ w', (∀ ty, (Builtin.delete_ #[tyP, 32] ty #[.map (some t.mp), locV s p]).run Try.prog w = .ok (.tuple #[]) w') ∧ Sp.Sep W w' (items.set k (mI (t.fpS (locK s p) none))) := by
  have hM := mI_at h hk
  obtain ⟨w', hrun, h1, h2⟩ := MF.del (hM.ok .p) locKd Try.underlying53 (key_loc hs hp)
  exact ⟨w', hrun, sep_turn h hk .p rfl h2 (fun r => by cases r <;> rfl) (fun r hr hc => by cases r <;> first | exact hc | exact absurd rfl hr) h1⟩
theorem sc_put (h : Sp.Sep W w items) (hk : items[k]? = some (mI t)) {s : Int} {e : Sg} (he : t.q s = some e) {i : ByteArray} (hi : i.size ≤ maxLen) (n : Int) {L : List Key} (hL : ∀ k, t.sc s k ≠ none → k ∈ L) (hn : L.length ≤ 100000) :
    ∃ w', (Instr.mapUpdate tyC (.map (some e.m)) (.string i) (.int .i64 n)).run Try.prog w = .ok () w' ∧ Sp.Sep W w' (items.set k (mI (t.scS s i.toList n))) := by
  have hM := mI_at h hk
  obtain ⟨w', hrun, h1, h2⟩ := MF.put (hM.ok (.m s) e he) strK Try.underlying55 (key_str hi) (intV n) (sF_supp (map_supp hL)) (by simpa using hn)
  refine ⟨w', hrun, sep_turn h hk (.m s) (b0 := e.m) (by simp [St.at_, he]) h2 (fun r => by cases r <;> rfl) (fun r hr hc => ?_) ?_⟩
  · cases r with
    | m s' =>
      intro e' he'
      have hne : s' ≠ s := fun e1 => hr (by rw [e1])
      exact MF.ext (hc e' he') fun x => by show sF (fun k => (up t.sc s _ s' k).map intV) x = _; rw [up_ne hne]
    | _ => exact hc
  · intro e' he'
    have : e' = e := by have := he'.symm.trans he; injection this
    subst this
    exact MF.ext h1 fun x => by
      show sF (fun k => (up t.sc s _ s k).map intV) x = _
      rw [sF_up, up_at]; unfold sF; cases x <;> first | rfl | exact up_map _ _ _ _ _
theorem lv_set (h : Sp.Sep W w items) (hk : items[k]? = some (mI t)) (n : Int) : Sp.Sep W (w.setCell ⟨t.g, 4, none⟩ (.int .i64 n)) (items.set k (mI (t.lvS n))) := by
  have hM := mI_at h hk
  obtain ⟨h1, h2⟩ := grown_cell (hM.ok .g) 4 (.int .i64 n)
  exact sep_turn h hk .g rfl h1 (fun r => by cases r <;> rfl) (fun r hr hc => by cases r <;> first | exact hc | exact absurd rfl hr) h2
theorem sg_set (h : Sp.Sep W w items) (hk : items[k]? = some (mI t)) {s : Int} {e : Sg} (he : t.q s = some e) (i : Nat) (u : Value) {t' : St} (hat : ∀ r, t'.at_ r = t.at_ r) (hq : t'.q = t.q)
    (hc0 : ∀ r w, (∀ s', r ≠ .b s') → t.comp w r → t'.comp w r) (hc1 : ∀ s' e', s' ≠ s → sgC t' s' e' = sgC t s' e') (hc2 : sgC t' s e = (sgC t s e).setIfInBounds i u) : Sp.Sep W (w.setCell ⟨e.b, i, none⟩ u) (items.set k (mI t')) := by
  have hM := mI_at h hk
  obtain ⟨h1, h2⟩ := grown_cell (hM.ok (.b s) e he) i u
  refine sep_turn h hk (.b s) (b0 := e.b) (by simp [St.at_, he]) h1 hat (fun r hr hc => ?_) ?_
  · cases r with
    | b s' =>
      intro e' he'
      rw [hq] at he'
      have := hc e' he'
      rw [hc1 s' e' fun e1 => hr (by rw [e1])]
      exact this
    | _ => exact hc0 _ _ (fun s' => by simp) hc
  · intro e' he'
    rw [hq] at he'
    have : e' = e := by have := he'.symm.trans he; injection this
    subst this
    rw [hc2]
    exact h2
theorem nn_set (h : Sp.Sep W w items) (hk : items[k]? = some (mI t)) {s : Int} {e : Sg} (he : t.q s = some e) (n : Int) : Sp.Sep W (w.setCell ⟨e.b, 2, none⟩ (.int .i64 n)) (items.set k (mI (t.nnS s n))) :=
  sg_set h hk he 2 _ (fun r => by cases r <;> rfl) rfl (fun r w hr hc => by cases r <;> first | exact hc | exact absurd rfl (hr _)) (fun s' e' hne => by simp [sgC, St.nnS, St.nlS, St.nzS, up_ne hne]) (by simp [sgC, St.nnS, St.nlS, St.nzS, up_at])
theorem nl_set (h : Sp.Sep W w items) (hk : items[k]? = some (mI t)) {s : Int} {e : Sg} (he : t.q s = some e) (n : Int) : Sp.Sep W (w.setCell ⟨e.b, 3, none⟩ (.int .i64 n)) (items.set k (mI (t.nlS s n))) :=
  sg_set h hk he 3 _ (fun r => by cases r <;> rfl) rfl (fun r w hr hc => by cases r <;> first | exact hc | exact absurd rfl (hr _)) (fun s' e' hne => by simp [sgC, St.nnS, St.nlS, St.nzS, up_ne hne]) (by simp [sgC, St.nnS, St.nlS, St.nzS, up_at])
theorem nz_set (h : Sp.Sep W w items) (hk : items[k]? = some (mI t)) {s : Int} {e : Sg} (he : t.q s = some e) (n : Int) : Sp.Sep W (w.setCell ⟨e.b, 4, none⟩ (.int .i64 n)) (items.set k (mI (t.nzS s n))) :=
  sg_set h hk he 4 _ (fun r => by cases r <;> rfl) rfl (fun r w hr hc => by cases r <;> first | exact hc | exact absurd rfl (hr _)) (fun s' e' hne => by simp [sgC, St.nnS, St.nlS, St.nzS, up_ne hne]) (by simp [sgC, St.nnS, St.nlS, St.nzS, up_at])
/-- A segment is forgotten. -/
theorem q_del (h : Sp.Sep W w items) (hk : items[k]? = some (mI t)) {s : Int} (hs : I64 s) :
    ∃ w', (∀ ty, (Builtin.delete_ #[tyS, 3] ty #[.map (some t.ms), .int .i64 s]).run Try.prog w = .ok (.tuple #[]) w') ∧ Sp.Sep W w' (items.set k (mI (t.qD s))) ∧ w.grownBy w' (some t.ms) := by
  obtain ⟨hM, put⟩ := mI_take h hk
  obtain ⟨w', hrun, h1, h2⟩ := MF.del (hM.ok .s) intK Try.underlying54 (key_int hs)
  have hne : ∀ r : Role, ¬ (r = .s ∨ r = .b s ∨ r = .m s ∨ r = .r s) → ({ t with q := up t.q s none } : St).at_ r = t.at_ r := fun r hr => by
    cases r with
    | b s' => simp only [St.at_]; rw [up_ne fun e1 => hr (by rw [e1]; simp)]
    | m s' => simp only [St.at_]; rw [up_ne fun e1 => hr (by rw [e1]; simp)]
    | r s' => simp only [St.at_]; rw [up_ne fun e1 => hr (by rw [e1]; simp)]
    | _ => rfl
  have hnone : ∀ r b, (r = .b s ∨ r = .m s ∨ r = .r s) → ({ t with q := up t.q s none } : St).at_ r ≠ some b := fun r b hr => by
    rcases hr with rfl | rfl | rfl <;> simp [St.at_, up_at]
  obtain ⟨q1, q2⟩ := hM.turn (t' := { t with q := up t.q s none }) (w' := w') (fun r => r = .s ∨ r = .b s ∨ r = .m s ∨ r = .r s) hne (fun r hr hc => by
      cases r with
      | b s' => intro e' he'; simp only at he'; rw [up_ne fun e1 => hr (by rw [e1]; simp)] at he'; exact hc e' he'
      | m s' => intro e' he'; simp only at he'; rw [up_ne fun e1 => hr (by rw [e1]; simp)] at he'; exact hc e' he'
      | r s' => intro e' he'; simp only at he'; rw [up_ne fun e1 => hr (by rw [e1]; simp)] at he'; exact hc e' he'
      | s => exact absurd (.inl rfl) hr
      | _ => exact hc)
    (fun b hb hr => h2.block b hb (fun e => hr .s (.inl rfl) e.symm))
    (fun r hr => by
      rcases hr with rfl | rfl | rfl | rfl
      · exact MF.ext h1 fun x => by rw [iF_up]; unfold iF; split <;> first | rfl | exact up_map _ _ _ _ _
      all_goals (intro e' he'; simp only [up_at] at he'; cases he'))
    (fun r b hr e => by
      rcases hr with rfl | hr
      · exact .inl e
      · exact absurd e (hnone r b hr))
    (fun r r' b hr hr' e e' => by
      rcases hr with rfl | hr
      · rcases hr' with rfl | hr'
        · rfl
        · exact absurd e' (hnone r' b hr')
      · exact absurd e (hnone r b hr))
  exact ⟨w', hrun, put w' _ q1 ((Only.refl _ _).grown h2 fun b hb => by injection hb with hb; subst hb; exact .inl ⟨.s, rfl⟩) q2, h2⟩
end
end Go.Proofs.Ytjdkgkllgapgjaa.Px
