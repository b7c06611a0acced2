/- Maps in memory, as functions of their keys. -/
import Derived.Test.YtjdkgkllgapgjaaJxF
import Derived.Maps.Views
import Derived.Maps.OwnOps
import Derived.Maps.OwnSet
import Derived.Maps.Range
import Derived.DeepKeys4
namespace Go.Proofs.Ytjdkgkllgapgjaa.Px
open Go.RowKit Go.Lib Go.Maps
open Re (Rec Key)
open Ix
open Sp
set_option linter.unusedVariables false
set_option maxRecDepth 100000

def hR (v : Value) : Option (DataW Value × List MemPlace) := some (.held v, [])
def orH (o : Option Value) (z : DataW Value) : DataW Value := match o with
  | some v => .held v
  | none => z
theorem orH_inj {o o' : Option Value} (h : ∀ z, orH o z = orH o' z) : o = o' := by
  cases o with
  | none =>
    cases o' with
    | none => rfl
    | some v =>
      have := h .nil
      cases this
  | some v =>
    cases o' with
    | none =>
      have := h .nil
      cases this
    | some v' =>
      have := h .nil
      injection this with this
      rw [this]
/-- What a map has at each key. -/
def MF (w : World) (kt : TypeId) (b : Nat) (f : Lit → Option Value) : Prop := ∃ D, w.ownsMap Try.prog kt hR b (Maps.size D) D ∧ ∀ x z, D.atKey x z = orH (f x) z
open Classical in
noncomputable def updF (f : Lit → Option Value) (k : Lit) (o : Option Value) : Lit → Option Value := fun x => if x = k then o else f x
theorem own_size {k : TypeId} {w : World} {b n : Nat} {D : DataW Value} (h : w.ownsMap Try.prog k hR b n D) : w.ownsMap Try.prog k hR b (Maps.size D) D := by
  obtain ⟨es, clock, h1, h2, h3, rfl⟩ := h
  refine ⟨es, clock, h1, h2, ?_, rfl⟩
  rw [Maps.size_eq, length_read]
  exact Nat.le_refl _
theorem nodup_le {α : Type} [DecidableEq α] : ∀ {l m : List α}, l.Nodup → (∀ x ∈ l, x ∈ m) → l.length ≤ m.length
  | [], m, _, _ => Nat.zero_le _
  | a :: l, m, hn, hs => by
    obtain ⟨h1, h2⟩ := List.nodup_cons.1 hn
    have h3 := nodup_le (m := m.erase a) h2 (fun x hx => (List.mem_erase_of_ne (fun e => h1 (by rw [← e]; exact hx))).2 (hs x (List.mem_cons_of_mem _ hx)))
    have h4 := List.length_erase_of_mem (hs a (List.mem_cons_self ..))
    have h5 : 0 < m.length := List.length_pos_of_mem (hs a (List.mem_cons_self ..))
    rw [List.length_cons]
    omega
section
variable {w w' : World} {kt t e : TypeId} {b : Nat} {f : Lit → Option Value} {z key v : Value} {kl : Lit}
theorem MF.made (w : World) (kt : TypeId) : MF (w.alloc (.map #[] 0)) kt w.heap.size (fun _ => none) := ⟨.map [], World.ownsMap_made w _ _ _, fun x z => rfl⟩
theorem MF.same (h : MF w kt b f) (hs : w'.heap[b]? = w.heap[b]?) : MF w' kt b f := by
  obtain ⟨D, ⟨es, clock, h1, h2⟩, hD⟩ := h
  exact ⟨D, ⟨es, clock, hs.trans h1, h2⟩, hD⟩
theorem MF.is (h : MF w kt b f) : ∃ es clock, w.heap[b]? = some (.map es clock) := by
  obtain ⟨D, ⟨es, clock, h1, h2⟩, hD⟩ := h
  exact ⟨es, clock, h1⟩
theorem MF.lt (h : MF w kt b f) : b < w.heap.size := by
  obtain ⟨es, c, h1⟩ := h.is
  exact (Array.getElem?_eq_some_iff.1 h1).1
theorem MF.ext {f' : Lit → Option Value} (h : MF w kt b f) (hf : ∀ x, f' x = f x) : MF w kt b f' := by
  obtain ⟨D, h1, h2⟩ := h
  exact ⟨D, h1, fun x z => by rw [hf]; exact h2 x z⟩
theorem MF.look (h : MF w kt b f) (K : Maps.Keyed Try.prog kt) (ht : Try.prog.underlying t = some (.map kt e)) (hz : (zeroValue e).run Try.prog w = .ok z w) (hkey : keyOf Try.prog kt key = some kl) :
    (Instr.lookup t (.map (some b)) key true).run Try.prog w = .ok (.tuple #[(f kl).getD z, .bool (f kl).isSome]) w ∧ (Instr.lookup t (.map (some b)) key false).run Try.prog w = .ok ((f kl).getD z) w := by
  obtain ⟨D, hD, hat⟩ := h
  obtain ⟨v1, ps, hrun, hv⟩ := hD.look_ok (t := t) K ht hz (zd := .held z) (zp := []) rfl hkey
  obtain ⟨v2, ps2, hrun2, hv2⟩ := hD.lookup (t := t) K ht hz (zd := .held z) (zp := []) rfl hkey
  have hv1 : DataW.held v1 = orH (f kl) (.held z) := by rw [← hat]; injection hv with hv; injection hv
  have hv3 : DataW.held v2 = orH (f kl) (.held z) := by rw [← hat]; injection hv2 with hv2; injection hv2
  rw [hrun, hrun2]
  cases hf : f kl with
  | none =>
    rw [hf] at hv1 hv3
    injection hv1 with hv1
    injection hv3 with hv3
    have : Maps.has D kl = false := has_false_of_atKey fun zz => by rw [hat, hf]; rfl
    rw [this, hv1, hv3]
    exact ⟨rfl, rfl⟩
  | some y =>
    rw [hf] at hv1 hv3
    injection hv1 with hv1
    injection hv3 with hv3
    have : Maps.has D kl = true := has_true_of_atKey (y := .held y) fun zz => by rw [hat, hf]; rfl
    rw [this, hv1, hv3]
    exact ⟨rfl, rfl⟩
theorem MF.size (K : Maps.Keyed Try.prog kt) {n : Nat} {D : DataW Value} (hD : w.ownsMap Try.prog kt hR b n D) (hat : ∀ x z, D.atKey x z = orH (f x) z) {L : List Lit} (hL : ∀ x, f x ≠ none → x ∈ L) : Maps.size D ≤ L.length := by
  obtain ⟨es, rfl, hap, hkeys⟩ := hD.entries K
  rw [Maps.size_eq, ← List.length_map (Prod.fst)]
  haveI : DecidableEq Lit := fun a c => Classical.propDecidable _
  refine nodup_le (List.pairwise_map.2 hap) fun x hx => ?_
  obtain ⟨p, hp, rfl⟩ := List.mem_map.1 hx
  refine hL _ fun hn => ?_
  have h1 : ∀ zz, (DataW.map es).atKey p.1 zz = p.2 := fun zz => WideAt.atKey_mem zz (hkeys p hp) hap hp
  have h2 : ∀ zz, p.2 = zz := fun zz => by rw [← h1 zz, hat, hn]; rfl
  have := (h2 .nil).symm.trans (h2 (.agg []))
  cases this
theorem MF.put (h : MF w kt b f) (K : Maps.Keyed Try.prog kt) (ht : Try.prog.underlying t = some (.map kt e)) (hkey : keyOf Try.prog kt key = some kl) (v : Value) {L : List Lit} (hL : ∀ x, f x ≠ none → x ∈ L) (hn : L.length ≤ 100000) :
    ∃ w', (Instr.mapUpdate t (.map (some b)) key v).run Try.prog w = .ok () w' ∧ MF w' kt b (updF f kl (some v)) ∧ w.grownBy w' (some b) := by
  obtain ⟨D, hD, hat⟩ := h
  have hsz := MF.size K hD hat hL
  obtain ⟨w', hrun, h1, h2⟩ := hD.store (t := t) K ht (by unfold maxLen; omega) hkey (val := v) (d := .held v) (ps := []) rfl
  refine ⟨w', hrun, ⟨_, own_size h1, fun x zz => ?_⟩, h2.grown⟩
  unfold updF
  by_cases hx : x = kl
  · subst hx
    rw [if_pos rfl, atKey_put_same hD.isMap (K.key hkey)]
    rfl
  · rw [if_neg hx, atKey_put_other hx, hat]
theorem MF.del (h : MF w kt b f) (K : Maps.Keyed Try.prog kt) (ht : Try.prog.underlying t = some (.map kt e)) (hkey : keyOf Try.prog kt key = some kl) :
    ∃ w', (∀ ty, (Builtin.delete_ #[t, kt] ty #[.map (some b), key]).run Try.prog w = .ok (.tuple #[]) w') ∧ MF w' kt b (updF f kl none) ∧ w.grownBy w' (some b) := by
  obtain ⟨D, hD, hat⟩ := h
  obtain ⟨w', hrun, h1, h2⟩ := hD.drop (t := t) K ht hkey 0
  refine ⟨w', fun ty => hrun, ⟨_, own_size h1, fun x zz => ?_⟩, h2.grown⟩
  unfold updF
  by_cases hx : x = kl
  · subst hx
    rw [if_pos rfl, atKey_del_same]
    rfl
  · rw [if_neg hx, atKey_del_other hx, hat]
end

/-! ### The keys -/
theorem strK : Maps.Keyed Try.prog 9 := string_keyed Try.underlying9
theorem intK : Maps.Keyed Try.prog 3 := int_keyed Try.underlying3
theorem key_str {i : ByteArray} (hi : i.size ≤ maxLen) : keyOf Try.prog 9 (.string i) = some (.string i.toList) := by
  simp [keyOf, Try.underlying9, mapKey, hi, Lib.toList_data]
theorem key_int {s : Int} (h : -9223372036854775808 ≤ s ∧ s ≤ 9223372036854775807) : keyOf Try.prog 3 (.int .i64 s) = some (.int .i64 s) :=
  keyOf_int_mk Try.underlying3 (by simp [Lit.wf]; exact h)
theorem loc_laid : laidOutB Try.prog = true := by kernel_rfl
theorem loc_row : (32 : TypeId) < Try.prog.types.size := of_decide_eq_true (by kernel_rfl)
theorem loc_deep : Try.prog.keyTypeAt 3 32 = true := by kernel_rfl
theorem loc_wide : (match Try.prog.underlying 32 with | some (.array _ _) | some (.struct _) => true | _ => false) = true := by rw [Try.underlying32]
theorem locKd : Maps.Keyed Try.prog 32 := .of_law (deep_law_laid loc_laid (m := 2) (by omega) loc_row (by kernel_rfl) loc_wide)
abbrev locV (s p : Int) : Value := .agg #[.int .i64 s, .int .i64 p]
theorem loc_cells : Try.prog.cellsOf 32 = 2 := by kernel_rfl
theorem int_cells : Try.prog.cellsOf 3 = 1 := by kernel_rfl
theorem loc_some {s p : Int} (hs : I64 s) (hp : I64 p) : ∃ l, keyOf Try.prog 32 (locV s p) = some l := by
  have w1 : (Lit.int .i64 s).wf = true := by simp [Lit.wf]; exact hs
  have w2 : (Lit.int .i64 p).wf = true := by simp [Lit.wf]; exact hp
  have hkt : Try.prog.keyType 32 = true := by kernel_rfl
  obtain ⟨m, hm⟩ : ∃ m, Try.prog.types.size = m + 1 := ⟨Try.prog.types.size - 1, by have h0 : 0 < Try.prog.types.size := of_decide_eq_true (by kernel_rfl); omega⟩
  refine ⟨.string (keyBytes [.int .i64 s, .int .i64 p]), ?_⟩
  unfold keyOf
  rw [Try.underlying32]
  simp only []
  rw [if_pos (by simp [hkt, Value.formed, Try.underlying32, loc_cells]), hm]
  unfold Program.keyLits
  rw [Try.underlying32]
  simp [loc_cells, int_cells, Value.cells, List.mapM_cons, Program.keyLits, Try.underlying3, w1, w2]
noncomputable def locK (s p : Int) : Lit := (keyOf Try.prog 32 (locV s p)).getD (.bool false)
theorem key_loc {s p : Int} (hs : I64 s) (hp : I64 p) : keyOf Try.prog 32 (locV s p) = some (locK s p) := by
  obtain ⟨l, hl⟩ := loc_some hs hp
  unfold locK
  rw [hl]
  rfl
theorem locK_inj {s p s' p' : Int} (hs : I64 s) (hp : I64 p) (hs' : I64 s') (hp' : I64 p') (h : locK s p = locK s' p') : s = s' ∧ p = p' := by
  have h1 := key_loc hs hp
  have h2 := key_loc hs' hp'
  rw [h] at h1
  have h3 := locKd.inj h1 h2
  unfold locV at h3
  injection h3 with h3
  simp at h3
  exact h3
def sF (h : Key → Option Value) : Lit → Option Value
  | .string k => h k
  | _ => none
def iF (h : Int → Option Value) : Lit → Option Value
  | .int .i64 s => h s
  | _ => none
def up {α β : Type} [DecidableEq α] (f : α → β) (k : α) (v : β) : α → β := fun x => if x = k then v else f x
theorem up_at {α β : Type} [DecidableEq α] (f : α → β) (k : α) (v : β) : up f k v k = v := by unfold up; rw [if_pos rfl]
theorem up_ne {α β : Type} [DecidableEq α] {f : α → β} {k j : α} {v : β} (h : j ≠ k) : up f k v j = f j := by unfold up; rw [if_neg h]
theorem sF_up (h : Key → Option Value) (k : Key) (o : Option Value) (x : Lit) : updF (sF h) (.string k) o x = sF (up h k o) x := by
  unfold updF sF up
  cases x <;> simp
theorem iF_up (h : Int → Option Value) (s : Int) (o : Option Value) (x : Lit) : updF (iF h) (.int .i64 s) o x = iF (up h s o) x := by
  unfold updF iF up
  cases x with
  | int q n => cases q <;> simp
  | _ => simp
end Go.Proofs.Ytjdkgkllgapgjaa.Px
