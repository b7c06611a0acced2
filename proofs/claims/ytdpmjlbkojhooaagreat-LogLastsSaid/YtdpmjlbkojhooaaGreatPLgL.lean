/- A part of the proofs of the statements about logs. -/
import Derived.Test.YtdpmjlbkojhooaaGreatPLgA
import Derived.Test.YtdpmjlbkojhooaaGreatPFreeD
import Derived.Test.YtdpmjlbkojhooaaGreatPClass
import Derived.Deep.DeepCutAuto
import Derived.Deep.RegionWith
import Derived.Deep.QuietTactic
import Derived.BigQuiet
import Derived.Test.YtdpmjlbkojhooaaGreatPNewV
import Derived.Test.YtdpmjlbkojhooaaGreatPLwK
namespace Go.Proofs.YtdpmjlbkojhooaaGreat.Lg
open Go.RowKit Go.Lib
open Tb (Tab TIn Sl okP csT lastN nth Fresh)
open Dk (St Only Grew)
set_option linter.unusedVariables false
set_option maxRecDepth 100000
theorem set_same {items : List Dk.Item} {k : Nat} {x : Dk.Item} (h : items[k]? = some x) : items.set k x = items := by
  apply List.ext_getElem?
  intro i
  rw [List.getElem?_set]
  by_cases e : k = i
  · subst e
    have hl := (List.getElem?_eq_some_iff.1 h).1
    rw [if_pos rfl, if_pos hl, h]
  · rw [if_neg e]
theorem get_set {items : List Dk.Item} {k j : Nat} {x y : Dk.Item} (h : items[j]? = some y) (hkj : k ≠ j) : (items.set k x)[j]? = some y := by rw [List.getElem?_set_ne hkj]; exact h
theorem get_self {items : List Dk.Item} {k : Nat} {x y : Dk.Item} (h : items[k]? = some y) : (items.set k x)[k]? = some x := List.getElem?_set_self (List.getElem?_eq_some_iff.1 h).1
theorem set_set {items : List Dk.Item} {k : Nat} {x y : Dk.Item} : (items.set k x).set k y = items.set k y := List.set_set ..
instance (s : St) : Decidable s.dead := by unfold Dk.St.dead; infer_instance
def chkS (s : St) (gn : Int) (S : ByteArray) : St × Int × Int :=
  if s.dead then (s, gn, 9) else
  if s.flush.dead then (s.flush, gn, 9) else
  if (s.flush.write ((gn + 1) % 2) S).dead then (s.flush.write ((gn + 1) % 2) S, gn, 9) else ((s.flush.write ((gn + 1) % 2) S).flush, gn + 1, 0)
theorem slC {κ : IntKind} {W : World} {A : Option Addr} {m : Nat} {l : List Int} (h : Sl .i64 W A m l) : Cp.Sl W A m l := ⟨h.len, h.cells⟩
theorem okC_of {t : Tab} (h : okP t) {g e l v : Int} (hg : g ≠ 0) (hl : l ≠ 0) : Cp.okC ⟨g, e, l, v, t.o, t.l⟩ = true := by
  rw [Cp.okC_iff]
  refine ⟨⟨hg, hl⟩, ?_⟩
  obtain ⟨h1, h2, h3, h4, h5, h6, h7, h8⟩ := h
  have hb := Tb.ok_bd (t := t) ⟨h1, h2, h3, h4, h5, h6, h7, h8⟩
  rw [Cp.segB_iff]
  exact ⟨by simp only; omega, by simp only; omega, h7, fun x hx => by have := h4 x hx; omega, fun x hx => by have := h6 x hx; omega, h5⟩
theorem size_of {S : ByteArray} {l : List UInt8} (h : l = S.data.toList) : S.size = l.length := by rw [h]; simp
end Go.Proofs.YtdpmjlbkojhooaaGreat.Lg
namespace Go.Proofs.YtdpmjlbkojhooaaGreat.Lg
open Go.RowKit Go.Lib
open Tb (Tab TIn Sl okP csT lastN nth Fresh)
open Dk (St Only Grew)
set_option linter.unusedVariables false
set_option maxRecDepth 100000
theorem set3 {items : List Dk.Item} {k j : Nat} {a b c : Dk.Item} (hkj : k ≠ j) : ((items.set j a).set k b).set j c = (items.set k b).set j c := by
  rw [List.set_comm _ _ hkj.symm, List.set_set]
def dropS (t : Tab) (x : Int) (s : St) (gn : Int) (S : ByteArray) : St × Tab × Int × Int := match Tb.dropT t x with
  | none => (s, t, gn, 1)
  | some t' => ((chkS s gn S).1, t', (chkS s gn S).2.1, (chkS s gn S).2.2)
end Go.Proofs.YtdpmjlbkojhooaaGreat.Lg
namespace Go.Proofs.YtdpmjlbkojhooaaGreat.Lg
open Go.RowKit Go.Lib
open Dk (St Only Grew)
set_option linter.unusedVariables false
set_option maxRecDepth 100000
def locI (l : List (Nat × TypeId × Array Value)) : Dk.Item :=
  ⟨fun w G => (∀ x ∈ l, Tb.Blk w x.1 x.2.1 x.2.2) ∧ ∀ b, G b ↔ ∃ x ∈ l, x.1 = b, fun ⟨h, hG⟩ hs _ => ⟨fun x hx => (hs x.1 ((hG x.1).2 ⟨x, hx, rfl⟩)).trans (h x hx), hG⟩,
    fun ⟨h, hG⟩ b hb => by obtain ⟨x, hx, e⟩ := (hG b).1 hb; rw [← e]; exact (h x hx).lt⟩
section
variable {W w w' : World} {items : List Dk.Item} {k : Nat} {l l' : List (Nat × TypeId × Array Value)}
theorem loc_new (h : Dk.Sep W w items) (hb : Below w.heap.size w w') (hl : ∀ x ∈ l, Tb.Blk w' x.1 x.2.1 x.2.2) (hn : ∀ x ∈ l, w.heap.size ≤ x.1) : Dk.Sep W w' (items ++ [locI l]) :=
  h.new (locI l) (G := fun b => ∃ x ∈ l, x.1 = b) ⟨hl, fun _ => Iff.rfl⟩ (fun b hb' => by obtain ⟨x, hx, e⟩ := hb'; rw [← e]; exact hn x hx) hb
theorem loc_at (h : Dk.Sep W w items) (hk : items[k]? = some (locI l)) : ∀ x ∈ l, Tb.Blk w x.1 x.2.1 x.2.2 := by
  obtain ⟨G, ⟨hl, _⟩, _⟩ := h.at_ k hk
  exact hl
theorem loc_put (h : Dk.Sep W w items) (hk : items[k]? = some (locI l)) (ho : Only (fun b => ∃ x ∈ l, x.1 = b) w w') (hl : ∀ x ∈ l', Tb.Blk w' x.1 x.2.1 x.2.2) (hs : ∀ x ∈ l', ∃ y ∈ l, y.1 = x.1) : Dk.Sep W w' (items.set k (locI l')) := by
  obtain ⟨G, ⟨_, hG⟩, _, _, put⟩ := h.at_ k hk
  refine put w' (fun b => ∃ x ∈ l', x.1 = b) _ ⟨hl, fun _ => Iff.rfl⟩ (fun b hb => ?_) (ho.mono fun b hb => .inl ((hG b).2 hb))
  obtain ⟨x, hx, e⟩ := hb
  obtain ⟨y, hy, e2⟩ := hs x hx
  exact .inl ((hG b).2 ⟨y, hy, e2.trans e⟩)
theorem loc_row (h : Dk.Sep W w items) (hk : items[k]? = some (locI l)) (b : Nat) (hb : ∃ x ∈ l, x.1 = b) (cs : Array Value) (hl : ∀ x ∈ l', Tb.Blk (w.setRow b cs) x.1 x.2.1 x.2.2) (hs : ∀ x ∈ l', ∃ y ∈ l, y.1 = x.1) : Dk.Sep W (w.setRow b cs) (items.set k (locI l')) :=
  loc_put h hk ((Only.refl _ w).setRow (.inl hb) cs) hl hs
theorem loc_drop {a : Dk.Item} (h : Dk.Sep W w (items ++ [a])) : Dk.Sep W w items := by
  obtain ⟨hW, Gs, hl, hh, hd, hN⟩ := h
  have hlen : Gs.length = items.length + 1 := by rw [hl]; simp
  have hg : ∀ (i : Nat) (G : Nat → Prop), (Gs.take items.length)[i]? = some G → i < items.length ∧ Gs[i]? = some G := fun i G hi => by
    rw [List.getElem?_take] at hi
    split at hi
    · exact ⟨by assumption, hi⟩
    · cases hi
  refine ⟨hW, Gs.take items.length, by rw [List.length_take]; omega, fun i it G hi hG => ?_, fun i j G H hij hi hj => hd i j G H hij (hg i G hi).2 (hg j H hj).2, fun i G hi => hN i G (hg i G hi).2⟩
  obtain ⟨hlt, hG'⟩ := hg i G hG
  exact hh i it G (by rw [List.getElem?_append_left hlt]; exact hi) hG'
theorem app_at {a b : Dk.Item} (h : items[k]? = some a) : (items ++ [b])[k]? = some a := by
  rw [List.getElem?_append_left (List.getElem?_eq_some_iff.1 h).1]; exact h
theorem app_last {b : Dk.Item} : (items ++ [b])[items.length]? = some b := by simp
theorem app_set {a b c : Dk.Item} (h : items[k]? = some a) : (items ++ [b]).set k c = items.set k c ++ [b] := by
  rw [List.set_append, if_pos (List.getElem?_eq_some_iff.1 h).1]
theorem app_set_last {b c : Dk.Item} : (items ++ [b]).set items.length c = items ++ [c] := by
  rw [List.set_append, if_neg (by omega)]; simp
end
end Go.Proofs.YtdpmjlbkojhooaaGreat.Lg
namespace Go.Proofs.YtdpmjlbkojhooaaGreat.Lg
open Go.RowKit Go.Lib
open Tb (Tab TIn Sl okP csT lastN nth Fresh)
open Dk (St Only Grew)
set_option linter.unusedVariables false
set_option maxRecDepth 100000
theorem loc_one (s1 s2 : Int) : (#[Value.int .i64 s1, .int .i64 s2] : Array Value).all (·.oneCell') = true := by simp [Value.oneCell']
theorem info_loc : (Tryz.prog.info? 67).map (·.size) = some 2 := by kernel_rfl
theorem len_open {t : Tab} (h : okP t) : Tb.lenT t (lastN t.o) = lastN t.l := by
  have hb := Tb.ok_bd h
  have hi : Tb.idx t.o (lastN t.o) = (t.o.length - 1 : Nat) := Tb.idx_at (by omega) rfl (by
    intro hm
    obtain ⟨j, hj, e⟩ := List.mem_iff_getElem.1 hm
    rw [List.length_take] at hj
    rw [List.getElem_take] at e
    have e2 : lastN t.o = t.o[t.o.length - 1]'(by omega) := by unfold lastN; rw [Tb.nth_lt (by omega)]
    rw [e2] at e
    have := (List.getElem_inj h.2.2.2.2.1).1 e
    omega)
  unfold Tb.lenT
  rw [hi, if_neg (by omega)]
  unfold lastN
  rw [Int.toNat_natCast, hb.2.2.1]
section
variable {ops : Array Oper} {rest : List Oper} {o : Oper} {a : Act} {w : World} {Q : Exit → Act → World → Prop}
theorem load_loc (hgd : o.guard = none) (x : Operand) (ho : o.op = .load 67 x) (b : Nat) (hx : a.eval x = .pointer (some ⟨b, 0, none⟩)) {s1 s2 : Int} {t : TypeId} (hg : Tb.Blk w b t #[.int .i64 s1, .int .i64 s2])
    (h : wpList Tryz.prog ops Q rest (a.put o.dst (.agg #[.int .i64 s1, .int .i64 s2])) w) : wpList Tryz.prog ops Q (o :: rest) a w :=
  wpList_load_row hgd _ x ho b hx _ #[.int .i64 s1, .int .i64 s2] (0, 0) _ hg Tryz.underlying67 rfl info_loc h
theorem store_loc (hgd : o.guard = none) (x y : Operand) (ho : o.op = .store 67 x y) (b : Nat) (hx : a.eval x = .pointer (some ⟨b, 0, none⟩)) {s1 s2 z1 z2 : Int} (hy : a.eval y = .agg #[.int .i64 s1, .int .i64 s2]) {t : TypeId} (hg : Tb.Blk w b t #[.int .i64 z1, .int .i64 z2])
    (h : wpList Tryz.prog ops Q rest (a.put o.dst undef) (w.setRow b #[.int .i64 s1, .int .i64 s2])) : wpList Tryz.prog ops Q (o :: rest) a w :=
  wpList_store_row hgd _ x y ho b #[.int .i64 s1, .int .i64 s2] hx hy _ _ hg info_loc rfl (loc_one s1 s2) h
end
theorem res_loc {fn : Func} {p' q' : Tmp} (h : fn.results = #[.cell p' 67, .tmp q']) (tmps : Array Value) (W : World) (b : Nat) {s1 s2 : Int} {t : TypeId} {y : Value} (hp : tmps.getD p' undef = .pointer (some ⟨b, 0, none⟩)) (hq : tmps.getD q' undef = y) (L : Tb.Blk W b t #[.int .i64 s1, .int .i64 s2]) :
    (results fn tmps).run Tryz.prog W = .ok (.tuple #[.agg #[.int .i64 s1, .int .i64 s2], y]) W := by
  have hp' : tmps[p']?.getD undef = .pointer (some ⟨b, 0, none⟩) := by simpa using hp
  have hq' : tmps[q']?.getD undef = y := by simpa using hq
  have h1 : (loadVar 67 ⟨b, 0, none⟩).run Tryz.prog W = .ok (.agg #[.int .i64 s1, .int .i64 s2]) W := run_loadVar_row W b t 67 #[.int .i64 s1, .int .i64 s2] (0, 0) _ L Tryz.underlying67 rfl info_loc
  simp [results, h, hp', hq', asAddr, h1]
end Go.Proofs.YtdpmjlbkojhooaaGreat.Lg
namespace Go.Proofs.YtdpmjlbkojhooaaGreat.Lg
open Go.RowKit Go.Lib
open Tb (Tab TIn Sl okP csT lastN nth Fresh)
open Dk (St Only Grew)
set_option linter.unusedVariables false
set_option maxRecDepth 100000
theorem fresh_wide {W : World} {base base' m : Nat} {A : Option Addr} (h : Fresh W base' A m) (hb : base ≤ base') : Fresh W base A m := fun hm => by
  obtain ⟨b, o, e, h1, h2⟩ := h hm
  exact ⟨b, o, e, Nat.le_trans hb h1, h2⟩
def TabR (t' : Tab) (N0 : Nat) (S : Nat → Prop) (u : Value) (W : World) : Prop :=
  ∃ A m p B k q C n r W1, u = .agg #[.int .i64 t'.sg, .int .i64 t'.st, .slice A m p, .slice B k q, .slice C n r] ∧ TIn W A m B k C n t'.o t'.l t'.f ∧ (Fresh W1 N0 A m ∧ Fresh W1 N0 B k ∧ Fresh W1 N0 C n) ∧ ∀ g, S g → Nb3 A B C g
def sealS (t : Tab) (s : St) (ls : Int) (S : ByteArray) : St × Tab × Int × Int := match Tb.freeT t with
  | [] => (s, t, ls, 10)
  | f :: _ => if s.dead then (s, t, ls, 9) else (s.write (Tb.sectorT t.st (lastN t.o) (lastN t.l)) S, Tb.openedT t f (ls + 1), ls + 1, 0)
end Go.Proofs.YtdpmjlbkojhooaaGreat.Lg
namespace Go.Proofs.YtdpmjlbkojhooaaGreat.Lg
open Go.RowKit Go.Lib
open Tb (Tab TIn Sl okP csT lastN nth Fresh)
open Dk (St Only Grew)
set_option linter.unusedVariables false
set_option maxRecDepth 100000
def secB (r : Rc.Rec) : ByteArray := ⟨(Rc.secL r).toArray⟩
theorem secB_eq (r : Rc.Rec) : Rc.secL r = (secB r).data.toList := by simp [secB]
def footB (t : Tab) (ls ep : Int) : ByteArray := match Tb.freeT t with
  | [] => ByteArray.empty
  | f :: _ => secB ⟨ls, ep, 3, 0, f, [], []⟩
theorem footB_eq {t : Tab} {ls ep f : Int} {l : List Int} (h : Tb.freeT t = f :: l) : Rc.secL ⟨ls, ep, 3, 0, f, [], []⟩ = (footB t ls ep).data.toList := by
  unfold footB; rw [h]; exact secB_eq _
def FitS (t : Tab) (s : St) : Prop := 2 + t.sg * (t.st + 1) ≤ s.size
theorem has_sector {t : Tab} {s : St} (hok : okP t) (hf : FitS t s) {seg slot : Int} (h1 : 0 ≤ seg ∧ seg < t.sg) (h2 : 0 ≤ slot ∧ slot ≤ t.st) : s.has (Tb.sectorT t.st seg slot) := by
  have hs := hok.1
  have ht := hok.2.1
  unfold Tb.sectorT
  rw [if_pos ⟨ht.1, ht.2, h1.1, by omega, h2.1, h2.2⟩]
  unfold FitS at hf
  have e1 : seg * (t.st + 1) ≤ (t.sg - 1) * (t.st + 1) := Int.mul_le_mul_of_nonneg_right (by omega) (by omega)
  have e2 : (t.sg - 1) * (t.st + 1) = t.sg * (t.st + 1) - (t.st + 1) := by rw [Int.sub_mul, Int.one_mul]
  have e3 : 0 ≤ seg * (t.st + 1) := Int.mul_nonneg h1.1 (by omega)
  exact ⟨by omega, by omega⟩
theorem open_bd {t : Tab} (hok : okP t) : (0 ≤ lastN t.o ∧ lastN t.o < t.sg) ∧ (0 ≤ lastN t.l ∧ lastN t.l ≤ t.st) := by
  have hb := Tb.ok_bd hok
  exact ⟨hok.2.2.2.1 _ (Tb.last_mem (by omega)), hok.2.2.2.2.2.1 _ (Tb.last_mem (by omega))⟩
theorem has_open {t : Tab} {s : St} (hok : okP t) (hf : FitS t s) : s.has (Tb.sectorT t.st (lastN t.o) (lastN t.l)) := has_sector hok hf (open_bd hok).1 (open_bd hok).2
theorem set4 {items : List Dk.Item} {k j : Nat} {a b c d : Dk.Item} (hkj : k ≠ j) : ((((items.set k a).set j b).set k c).set j d) = (items.set k c).set j d := by
  rw [List.set_comm _ _ hkj.symm, set_set, set_set]
def sealIf (t : Tab) (s : St) (ls ep : Int) : St × Tab × Int × Int := if lastN t.l = t.st then sealS t s ls (footB t ls ep) else (s, t, ls, 0)
def appS (t : Tab) (s : St) (ls ep K V D : Int) (I X : ByteArray) : St × Tab × Int × Int × Int × Int :=
  if K = 3 ∨ Rc.okR ⟨ls, ep, K, V, D, I.data.toList, X.data.toList⟩ = false then (s, t, ls, 0, 0, 5) else
  if Tb.roomT t = 0 then (s, t, ls, 0, 0, 10) else
  if (sealIf t s ls ep).2.2.2 ≠ 0 then ((sealIf t s ls ep).1, (sealIf t s ls ep).2.1, (sealIf t s ls ep).2.2.1, 0, 0, (sealIf t s ls ep).2.2.2) else
  putS (sealIf t s ls ep).2.1 (sealIf t s ls ep).1 (sealIf t s ls ep).2.2.1 ep K V D I X
where
  putS (t : Tab) (s : St) (ls ep K V D : Int) (I X : ByteArray) : St × Tab × Int × Int × Int × Int :=
    if s.dead then (s, t, ls, 0, 0, 9) else (s.write (Tb.sectorT t.st (lastN t.o) (lastN t.l)) (secB ⟨ls, ep, K, V, D, I.data.toList, X.data.toList⟩), Tb.countedT t, ls + 1, lastN t.o, lastN t.l, 0)
theorem blk_ne {W : World} {b c : Nat} {T T' : TypeId} {vs us : Array Value} (h : Tb.Blk W b T vs) (h' : Tb.Blk W c T' us) (hne : T ≠ T') : b ≠ c := by
  intro e
  subst e
  unfold Tb.Blk at h h'
  rw [h] at h'
  injection h' with h'
  injection h' with _ h'
  exact hne h'
theorem okR_lsn {l l' e k v d : Int} {i a : List UInt8} (h : Rc.okR ⟨l, e, k, v, d, i, a⟩ = true) (hl : l' ≠ 0) : Rc.okR ⟨l', e, k, v, d, i, a⟩ = true := by
  rw [Rc.okR_iff] at h ⊢
  exact ⟨hl, h.2⟩
theorem count_yes {t : Tab} (h : lastN t.l ≠ t.st) : Tb.countT t = some (Tb.countedT t) := if_neg h
theorem opened_count {t : Tab} {f x : Int} (hok : okP t) : lastN (Tb.openedT t f x).l ≠ (Tb.openedT t f x).st := by
  have h1 : lastN (t.l ++ [0]) = 0 := by unfold lastN; rw [List.length_append, List.length_singleton, Nat.add_sub_cancel]; exact Tb.nth_last t.l 0
  have := hok.2.1
  show lastN (t.l ++ [0]) ≠ t.st
  rw [h1]; omega
theorem seal_facts {t t1 : Tab} {s s1 : St} {ls ls1 e1 : Int} {S : ByteArray} (hok : okP t) (hf : FitS t s) (hls : 1 ≤ ls ∧ ls + 2 < 18446744073709551616) (hpl : s.pend.length + 2 < 1048576) (EZ : sealS t s ls S = (s1, t1, ls1, e1)) (he : e1 = 0) :
    okP t1 ∧ FitS t1 s1 ∧ lastN t1.l ≠ t1.st ∧ (1 ≤ ls1 ∧ ls1 + 1 < 18446744073709551616) ∧ s1.pend.length < 1048576 := by
  unfold sealS at EZ
  split at EZ
  · injection EZ with _ EZ; injection EZ with _ EZ; injection EZ with _ EZ; omega
  · rename_i f l hfr
    split at EZ
    · injection EZ with _ EZ; injection EZ with _ EZ; injection EZ with _ EZ; omega
    · injection EZ with E1 EZ; injection EZ with E2 EZ; injection EZ with E3 EZ
      subst E1 E2 E3
      refine ⟨Tb.opened_ok hok (by rw [hfr]; exact List.mem_cons_self ..), hf, opened_count hok, ⟨by omega, by omega⟩, ?_⟩
      show (s.pend ++ [_]).length < _
      simp; omega
end Go.Proofs.YtdpmjlbkojhooaaGreat.Lg
namespace Go.Proofs.YtdpmjlbkojhooaaGreat.Lg
open Go.RowKit Go.Lib
open Tb (Tab TIn Sl okP csT lastN nth Fresh)
open Dk (St Only Grew)
set_option linter.unusedVariables false
set_option maxRecDepth 100000
def zero7 : Array Value := #[.int .u64 0, .int .u32 0, .int .i64 0, .int .u64 0, .int .u64 0, .string ⟨#[]⟩, .string ⟨#[]⟩]
def cutC (s : ByteArray) : Array Value :=
  if Rc.isSec s.data.toList = true then #[.int .u64 (Rc.cutR s.data.toList).l, .int .u32 (Rc.cutR s.data.toList).e, .int .i64 (Rc.cutR s.data.toList).k, .int .u64 (Rc.cutR s.data.toList).v, .int .u64 (Rc.cutR s.data.toList).d, .string ⟨(Rc.cutR s.data.toList).i.toArray⟩, .string ⟨(Rc.cutR s.data.toList).a.toArray⟩] else zero7
def decE (s : ByteArray) : Int := if Rc.isSec s.data.toList = true then 0 else 5
theorem cutC_one (s : ByteArray) : (cutC s).all (·.oneCell') = true := by
  unfold cutC zero7
  split <;> simp [Value.oneCell']
theorem cutC_size (s : ByteArray) : (cutC s).size = 7 := by
  unfold cutC zero7
  split <;> rfl
def readS (t : Tab) (s : St) (seg slot : Int) : Array Value × Int :=
  if slot < 0 ∨ Tb.lenT t seg ≤ slot then (zero7, 3) else (cutC (s.cur (Tb.sectorT t.st seg slot)), decE (s.cur (Tb.sectorT t.st seg slot)))
section
variable {ops : Array Oper} {rest : List Oper} {o : Oper} {a : Act} {w : World} {Q : Exit → Act → World → Prop}
end
theorem len_in {t : Tab} {seg slot : Int} (h0 : 0 ≤ slot) (h : slot < Tb.lenT t seg) : seg ∈ t.o := by
  unfold Tb.lenT at h
  split at h
  · omega
  · rename_i hn
    exact Decidable.byContradiction fun hm => hn (Tb.idx_neg.2 hm)
theorem len_le {t : Tab} {seg : Int} (hok : okP t) : Tb.lenT t seg ≤ t.st := by
  unfold Tb.lenT
  split
  · have := hok.2.1; omega
  · have hi := Tb.idx_lt (l := t.o) (x := seg)
    have := hok.2.2.2.2.2.1 (nth t.l (Tb.idx t.o seg).toNat) (Tb.nth_mem (by have := hok.2.2.2.2.2.2.1; omega))
    omega
end Go.Proofs.YtdpmjlbkojhooaaGreat.Lg
namespace Go.Proofs.YtdpmjlbkojhooaaGreat.Lg
open Go.RowKit Go.Lib
open Tb (Tab TIn Sl okP csT lastN nth Fresh)
open Dk (St Only Grew)
set_option linter.unusedVariables false
set_option maxRecDepth 100000
theorem log_new {W w w' W0 : World} {items : List Dk.Item} {T : TypeId} {g d : Nat} {t : Tab} {ls ep gn : Int} {A : Option Addr} {m p : Nat} {B : Option Addr} {k q : Nat} {C : Option Addr} {n r : Nat} (h : Dk.Sep W w items) (hb : Below w.heap.size w w') (hB : Tb.Blk w' g T (csL d t.sg t.st A m p B k q C n r ls ep gn)) (hg : w.heap.size ≤ g) (ht : TIn w' A m B k C n t.o t.l t.f) (hok : okP t) (hf : Fresh W0 w.heap.size A m ∧ Fresh W0 w.heap.size B k ∧ Fresh W0 w.heap.size C n) (hn : Nb3 A B C g) :
    Dk.Sep W w' (items ++ [logI T g d t ls ep gn]) := by
  have h1 := Tb.ok_full hok ht
  obtain ⟨ba, oa, rfl, hba, _⟩ := ht.a.cells (by omega)
  obtain ⟨bb, ob, rfl, hbb, _⟩ := ht.b.cells (by omega)
  obtain ⟨bc, oc, rfl, hbc, _⟩ := ht.c.cells (by omega)
  have fa : w.heap.size ≤ ba := by obtain ⟨b, o, e, hle, _⟩ := hf.1 (by omega); injection e with e; injection e with e1; omega
  have fb : w.heap.size ≤ bb := by obtain ⟨b, o, e, hle, _⟩ := hf.2.1 (by omega); injection e with e; injection e with e1; omega
  have fc : w.heap.size ≤ bc := by obtain ⟨b, o, e, hle, _⟩ := hf.2.2 (by omega); injection e with e; injection e with e1; omega
  refine h.new (logI T g d t ls ep gn) (G := fun b => b = g ∨ b = ba ∨ b = bb ∨ b = bc) ⟨_, m, p, _, k, q, _, n, r, ⟨hB, ht, .inl rfl, ?_, ?_, ?_, hn, ?_, hok⟩⟩ ?_ hb
  · rintro a ha; injection ha with ha; subst ha; exact .inr (.inl rfl)
  · rintro a ha; injection ha with ha; subst ha; exact .inr (.inr (.inl rfl))
  · rintro a ha; injection ha with ha; subst ha; exact .inr (.inr (.inr rfl))
  · rintro b (rfl | rfl | rfl | rfl)
    · exact hB.lt
    · exact hba
    · exact hbb
    · exact hbc
  · rintro b (rfl | rfl | rfl | rfl)
    · exact hg
    · exact fa
    · exact fb
    · exact fc
theorem app_fin {items : List Dk.Item} {k : Nat} {a b c d : Dk.Item} (h : items[k]? = some a) : ((items ++ [b]).set k c).set items.length d = items.set k c ++ [d] := by
  rw [app_set h]
  have e : items.length = (items.set k c).length := by simp
  rw [e]
  exact app_set_last
theorem chk_zero {s : St} {gn : Int} {S : ByteArray} (h : (chkS s gn S).2.2 = 0) : (chkS s gn S).2.1 = gn + 1 := by
  unfold chkS at h ⊢
  split
  · rename_i h1; rw [if_pos h1] at h; exact absurd h (by simp)
  · rename_i h1
    rw [if_neg h1] at h
    split
    · rename_i h2; rw [if_pos h2] at h; exact absurd h (by simp)
    · rename_i h2
      rw [if_neg h2] at h
      split
      · rename_i h3; rw [if_pos h3] at h; exact absurd h (by simp)
      · rfl
theorem may_size {sg sl rt : Int} {x : Nat} (h : Ck.MayC sg sl x rt) : Tb.sizeB sg sl = true := by
  obtain ⟨h1, h2, _⟩ := h
  unfold Tb.sizeB
  exact decide_eq_true ⟨h1, h2⟩
def fmtE (s : St) (sg sl : Int) (x : Nat) (rt : Int) (S : ByteArray) : Int := if Ck.MayC sg sl x rt then (if s.size < Ck.scC sg sl x rt then 10 else (chkS s 0 S).2.2) else 1
def fmtD (s : St) (sg sl : Int) (x : Nat) (rt : Int) (S : ByteArray) : St := if Ck.MayC sg sl x rt then (if s.size < Ck.scC sg sl x rt then s else (chkS s 0 S).1) else s
end Go.Proofs.YtdpmjlbkojhooaaGreat.Lg
namespace Go.Proofs.YtdpmjlbkojhooaaGreat.Lg
open Go.RowKit Go.Lib
open Tb (Tab TIn Sl okP csT lastN nth Fresh)
open Dk (St Only Grew)
set_option linter.unusedVariables false
theorem secB_size {r : Rc.Rec} (h : Rc.okR r = true) : (secB r).size = 128 := (size_of (secB_eq r)).trans (Rc.secL_len h)
theorem foot_ok {ls ep f : Int} (hls : 1 ≤ ls) (hf : f < 16) : Rc.okR ⟨ls, ep, 3, 0, f, [], []⟩ = true := by
  rw [Rc.okR_iff]
  exact ⟨by simp only; omega, .inr (.inr ⟨rfl, rfl, rfl, rfl, hf⟩)⟩
theorem footB_size {t : Tab} {ls ep f : Int} {l : List Int} (hok : okP t) (hls : 1 ≤ ls) (h : Tb.freeT t = f :: l) : (footB t ls ep).size = 128 := by
  have hi := Tb.free_in (t := t) (s := f) (by rw [h]; exact List.mem_cons_self ..) (by have := hok.1; omega)
  have := hok.1
  unfold footB
  rw [h]
  exact secB_size (foot_ok hls (by omega))
structure LogP (c : Nat) (t : Tab) (s : St) (ls gn : Int) : Prop where
  ok : okP t
  fit : FitS t s
  good : s.Good
  ls1 : 1 ≤ ls
  ls2 : ls ≤ 1 + c
  gn1 : 0 ≤ gn
  gn2 : gn ≤ 1 + c
  pend : s.pend.length ≤ c
section
variable {c c' : Nat} {t : Tab} {s : St} {ls gn ep : Int} {S : ByteArray}
theorem LogP.size2 (h : LogP c t s ls gn) : 2 ≤ s.size := by
  have h1 := h.fit
  unfold FitS at h1
  have h2 := h.ok.1
  have h3 := h.ok.2.1
  have := Int.mul_nonneg (show 0 ≤ t.sg by omega) (show 0 ≤ t.st + 1 by omega)
  omega
theorem LogP.le (h : LogP c t s ls gn) (hc : c ≤ c') : LogP c' t s ls gn :=
  ⟨h.ok, h.fit, h.good, h.ls1, by have := h.ls2; omega, h.gn1, by have := h.gn2; omega, Nat.le_trans h.pend hc⟩
theorem chk_p (h : LogP c t s ls gn) (hS : S.size = 128) : LogP (c + 1) t (chkS s gn S).1 ls (chkS s gn S).2.1 := by
  have hz := h.size2
  have g1 := h.gn1
  have g2 := h.gn2
  unfold chkS
  split
  · exact h.le (by omega)
  · rename_i hd
    have hfl := h.good.flush hd
    split
    · exact ⟨h.ok, h.fit, hfl, h.ls1, by have := h.ls2; omega, g1, by simp only; omega, by show ([] : List (Int × ByteArray)).length ≤ _; simp⟩
    · rename_i hd1
      have hw := hfl.write hd1 (i := (gn + 1) % 2) (x := S) ⟨by omega, by show _ < s.size; omega⟩ hS
      split
      · exact ⟨h.ok, h.fit, hw, h.ls1, by have := h.ls2; omega, g1, by simp only; omega, by show ([] ++ [_] : List (Int × ByteArray)).length ≤ _; simp⟩
      · rename_i hd2
        exact ⟨h.ok, h.fit, hw.flush hd2, h.ls1, by have := h.ls2; omega, by simp only; omega, by simp only; omega, by show ([] : List (Int × ByteArray)).length ≤ _; simp⟩
theorem drop_p {x : Int} (h : LogP c t s ls gn) (hS : ∀ u, Tb.dropT t x = some u → S.size = 128) : LogP (c + 1) (dropS t x s gn S).2.1 (dropS t x s gn S).1 ls (dropS t x s gn S).2.2.1 := by
  unfold dropS
  split
  · exact h.le (by omega)
  · rename_i u hu
    have hk := chk_p h (hS u hu)
    have hst : u.st = t.st ∧ u.sg = t.sg := by
      unfold Tb.dropT at hu
      split at hu
      · cases hu
      · injection hu with hu; subst hu; exact ⟨rfl, rfl⟩
    exact ⟨Tb.drop_ok h.ok hu, by have := hk.fit; unfold FitS at this ⊢; rw [hst.1, hst.2]; exact this, hk.good, hk.ls1, hk.ls2, hk.gn1, hk.gn2, hk.pend⟩
theorem seal_p (h : LogP c t s ls gn) (hS : ∀ f l, Tb.freeT t = f :: l → S.size = 128) : LogP (c + 1) (sealS t s ls S).2.1 (sealS t s ls S).1 (sealS t s ls S).2.2.1 gn := by
  have g1 := h.ls1
  have g2 := h.ls2
  unfold sealS
  split
  · exact h.le (by omega)
  · rename_i f l hfr
    split
    · exact h.le (by omega)
    · rename_i hd
      exact ⟨Tb.opened_ok h.ok (by rw [hfr]; exact List.mem_cons_self ..), h.fit, h.good.write hd (has_open h.ok h.fit) (hS f l hfr), by simp only; omega, by simp only; omega, h.gn1, by have := h.gn2; omega, by show (s.pend ++ [_]).length ≤ _; have := h.pend; simp; omega⟩
theorem sealIf_p (h : LogP c t s ls gn) : LogP (c + 1) (sealIf t s ls ep).2.1 (sealIf t s ls ep).1 (sealIf t s ls ep).2.2.1 gn := by
  unfold sealIf
  split
  · exact seal_p h fun f l hf => footB_size h.ok h.ls1 hf
  · exact h.le (by omega)
theorem sealIf_room (hok : okP t) (he : (sealIf t s ls ep).2.2.2 = 0) : lastN (sealIf t s ls ep).2.1.l ≠ (sealIf t s ls ep).2.1.st := by
  unfold sealIf at he ⊢
  split
  · rename_i hf
    rw [if_pos hf] at he
    unfold sealS at he ⊢
    split
    · rename_i hfr
      simp only [hfr] at he
      exact absurd he (by simp)
    · rename_i f l hfr
      simp only [hfr] at he
      split
      · rename_i hd
        rw [if_pos hd] at he
        exact absurd he (by simp)
      · exact opened_count hok
  · rename_i hf
    exact hf
def chkB (t : Tab) (gn ep ls ver : Int) : ByteArray := ⟨(Cp.secL ⟨gn + 1, ep, ls, ver, t.o, t.l⟩).toArray⟩
theorem chkB_eq (t : Tab) (gn ep ls ver : Int) : Cp.secL ⟨gn + 1, ep, ls, ver, t.o, t.l⟩ = (chkB t gn ep ls ver).data.toList := by simp [chkB]
theorem chkB_size {ver : Int} (hok : okP t) (hg : 0 ≤ gn) (hl : 1 ≤ ls) : (chkB t gn ep ls ver).size = 128 := (size_of (chkB_eq t gn ep ls ver)).trans (Cp.secL_len (okC_of hok (by omega) (by omega)))
def dropB (t : Tab) (x gn ep ls ver : Int) : ByteArray := match Tb.dropT t x with
  | none => ByteArray.empty
  | some u => chkB u gn ep ls ver
theorem dropB_eq {x ver : Int} {u : Tab} (h : Tb.dropT t x = some u) : Cp.secL ⟨gn + 1, ep, ls, ver, u.o, u.l⟩ = (dropB t x gn ep ls ver).data.toList := by
  unfold dropB; rw [h]; exact chkB_eq ..
theorem dropB_size {x ver : Int} {u : Tab} (hok : okP t) (hg : 0 ≤ gn) (hl : 1 ≤ ls) (h : Tb.dropT t x = some u) : (dropB t x gn ep ls ver).size = 128 := by
  unfold dropB; rw [h]; exact chkB_size (Tb.drop_ok hok h) hg hl
variable {K V D : Int} {I X : ByteArray}
theorem put_p (h : LogP c t s ls gn) (hr : lastN t.l ≠ t.st) (hR : Rc.okR ⟨ls, ep, K, V, D, I.data.toList, X.data.toList⟩ = true) : LogP (c + 1) (appS.putS t s ls ep K V D I X).2.1 (appS.putS t s ls ep K V D I X).1 (appS.putS t s ls ep K V D I X).2.2.1 gn := by
  have g1 := h.ls1
  have g2 := h.ls2
  unfold appS.putS
  split
  · exact h.le (by omega)
  · rename_i hd
    exact ⟨Tb.count_ok h.ok (count_yes hr), h.fit, h.good.write hd (has_open h.ok h.fit) (secB_size hR), by simp only; omega, by simp only; omega, h.gn1, by have := h.gn2; omega, by show (s.pend ++ [_]).length ≤ _; have := h.pend; simp; omega⟩
theorem okR_stamp {l l' e e' : Int} {i a : List UInt8} (hl : l ≠ 0) (h : Rc.okR ⟨l', e', K, V, D, i, a⟩ = true) : Rc.okR ⟨l, e, K, V, D, i, a⟩ = true := by
  rw [Rc.okR_iff] at h ⊢
  exact ⟨hl, h.2⟩
theorem app_p (h : LogP c t s ls gn) : LogP (c + 2) (appS t s ls ep K V D I X).2.1 (appS t s ls ep K V D I X).1 (appS t s ls ep K V D I X).2.2.1 gn := by
  have hs := sealIf_p (ep := ep) h
  unfold appS
  split
  · exact h.le (by omega)
  · rename_i hk
    split
    · exact h.le (by omega)
    · split
      · exact hs.le (by omega)
      · rename_i he
        have he : (sealIf t s ls ep).2.2.2 = 0 := by omega
        refine put_p hs (sealIf_room h.ok he) (okR_stamp (by have := hs.ls1; omega) (l' := ls) (e' := ep) ?_)
        cases hb : Rc.okR ⟨ls, ep, K, V, D, I.data.toList, X.data.toList⟩ with
        | true => rfl
        | false => exact absurd (.inr hb) hk
end
theorem cur_write (s : St) (i j : Int) (S : ByteArray) : (s.write i S).cur j = if i = j then S else s.cur j := Dk.over_snoc ..
theorem sector_inj {st a b x y : Int} (hs : 1 ≤ st ∧ st ≤ 30) (ha : 0 ≤ a ∧ a ≤ 15) (hb : 0 ≤ b ∧ b ≤ 15) (hx : 0 ≤ x ∧ x ≤ st) (hy : 0 ≤ y ∧ y ≤ st) (h : Tb.sectorT st a x = Tb.sectorT st b y) : a = b ∧ x = y := by
  unfold Tb.sectorT at h
  rw [if_pos ⟨hs.1, hs.2, ha.1, ha.2, hx.1, hx.2⟩, if_pos ⟨hs.1, hs.2, hb.1, hb.2, hy.1, hy.2⟩] at h
  rcases Int.lt_trichotomy a b with h1 | h1 | h1
  · have := Int.mul_le_mul_of_nonneg_right (show a + 1 ≤ b by omega) (show 0 ≤ st + 1 by omega)
    rw [Int.add_mul, Int.one_mul] at this
    omega
  · subst h1
    exact ⟨rfl, by omega⟩
  · have := Int.mul_le_mul_of_nonneg_right (show b + 1 ≤ a by omega) (show 0 ≤ st + 1 by omega)
    rw [Int.add_mul, Int.one_mul] at this
    omega
theorem len_at {t : Tab} (hok : okP t) {i : Nat} (hi : i < t.o.length) : Tb.lenT t (nth t.o i) = nth t.l i := by
  have e : Tb.idx t.o (nth t.o i) = i := by
    rw [Tb.idx_yes (Tb.nth_mem hi), Tb.nth_lt hi, List.Nodup.idxOf_getElem hok.2.2.2.2.1]
  unfold Tb.lenT
  rw [e, if_neg (by omega)]
  rfl
theorem len_last {t : Tab} (hok : okP t) : Tb.lenT t (lastN t.o) = lastN t.l := by
  have h1 := hok.2.2.1
  have h2 := hok.2.2.2.2.2.2.1
  have := len_at hok (i := t.o.length - 1) (by omega)
  rw [← h2] at this
  unfold lastN
  rw [← h2]
  exact this
theorem mem_at {l : List Int} {x : Int} (h : x ∈ l) : ∃ i, i < l.length ∧ nth l i = x := by
  obtain ⟨i, hi, e⟩ := List.getElem_of_mem h
  exact ⟨i, hi, by rw [Tb.nth_lt hi, e]⟩
theorem nth_set_ne {l : List Int} {i j : Nat} {x : Int} (h : i ≠ j) : nth (l.set i x) j = nth l j := by
  unfold nth
  simp [List.getD_eq_getElem?_getD, List.getElem?_set_ne h]
theorem len_opened {t : Tab} {f y x : Int} (hok : okP t) (hok2 : okP (Tb.openedT t f y)) (hx : x ∈ t.o) : Tb.lenT (Tb.openedT t f y) x = Tb.lenT t x := by
  obtain ⟨i, hi, rfl⟩ := mem_at hx
  have h2 := hok.2.2.2.2.2.2.1
  have e := len_at hok2 (i := i) (by show i < (t.o ++ [f]).length; simp; omega)
  rw [len_at hok hi]
  have e1 : nth (Tb.openedT t f y).o i = nth t.o i := Tb.nth_app hi
  have e2 : nth (Tb.openedT t f y).l i = nth t.l i := Tb.nth_app (by omega)
  rw [e1, e2] at e
  exact e
theorem len_counted {t : Tab} {x : Int} (hok : okP t) (hok2 : okP (Tb.countedT t)) (hx : x ∈ t.o) : Tb.lenT t x ≤ Tb.lenT (Tb.countedT t) x := by
  obtain ⟨i, hi, rfl⟩ := mem_at hx
  have h2 := hok.2.2.2.2.2.2.1
  have e := len_at hok2 (i := i) hi
  have e1 : nth (Tb.countedT t).o i = nth t.o i := rfl
  rw [e1] at e
  rw [e, len_at hok hi]
  show nth t.l i ≤ nth (t.l.set (t.l.length - 1) (lastN t.l + 1)) i
  by_cases h : t.l.length - 1 = i
  · subst h
    rw [Tb.nth_set (by omega)]
    unfold lastN
    omega
  · rw [nth_set_ne h]
    omega
theorem len_put {t : Tab} (hok : okP t) (hok2 : okP (Tb.countedT t)) : Tb.lenT (Tb.countedT t) (lastN t.o) = lastN t.l + 1 := by
  have := len_last hok2
  have e : lastN (Tb.countedT t).l = lastN t.l + 1 := Tb.last_set _ _ (by have := hok.2.2.1; have := hok.2.2.2.2.2.2.1; omega)
  rw [e] at this
  exact this
structure Stands (t : Tab) (s : St) (x : (Int × Int) × Rc.Rec) : Prop where
  inn : x.1.1 ∈ t.o
  lo : 0 ≤ x.1.2
  hi : x.1.2 < Tb.lenT t x.1.1
  cur : s.cur (Tb.sectorT t.st x.1.1 x.1.2) = secB x.2
  fits : Rc.Fits x.2
  ok : Rc.okR x.2 = true
theorem len_bd {t : Tab} {x : Int} (hok : okP t) (hx : x ∈ t.o) : 0 ≤ Tb.lenT t x ∧ Tb.lenT t x ≤ t.st := by
  obtain ⟨i, hi, rfl⟩ := mem_at hx
  rw [len_at hok hi]
  exact hok.2.2.2.2.2.1 _ (Tb.nth_mem (by have := hok.2.2.2.2.2.2.1; omega))
theorem Stands.write {t : Tab} {s : St} {x : (Int × Int) × Rc.Rec} (h : Stands t s x) (hok : okP t) (S : ByteArray) : Stands t (s.write (Tb.sectorT t.st (lastN t.o) (lastN t.l)) S) x := by
  refine ⟨h.inn, h.lo, h.hi, ?_, h.fits, h.ok⟩
  rw [cur_write, if_neg, h.cur]
  intro e
  have b1 := open_bd hok
  have b2 := hok.2.2.2.1 _ h.inn
  have b3 := len_bd hok h.inn
  have b0 := hok.1
  obtain ⟨e1, e2⟩ := sector_inj hok.2.1 (by omega) (by omega) b1.2 ⟨h.lo, by have := h.hi; omega⟩ e
  have := h.hi
  rw [← e1, len_last hok] at this
  omega
theorem Stands.opened {t : Tab} {s : St} {x : (Int × Int) × Rc.Rec} {f y : Int} (h : Stands t s x) (hok : okP t) (hok2 : okP (Tb.openedT t f y)) : Stands (Tb.openedT t f y) s x :=
  ⟨List.mem_append_left _ h.inn, h.lo, by rw [len_opened hok hok2 h.inn]; exact h.hi, h.cur, h.fits, h.ok⟩
theorem Stands.counted {t : Tab} {s : St} {x : (Int × Int) × Rc.Rec} (h : Stands t s x) (hok : okP t) (hok2 : okP (Tb.countedT t)) : Stands (Tb.countedT t) s x :=
  ⟨h.inn, h.lo, Int.lt_of_lt_of_le h.hi (len_counted hok hok2 h.inn), h.cur, h.fits, h.ok⟩
theorem seal_stands {t : Tab} {s : St} {ls : Int} {S : ByteArray} {x : (Int × Int) × Rc.Rec} (h : Stands t s x) (hok : okP t) : Stands (sealS t s ls S).2.1 (sealS t s ls S).1 x := by
  unfold sealS
  split
  · exact h
  · rename_i f l hfr
    split
    · exact h
    · exact (h.write hok S).opened hok (Tb.opened_ok hok (by rw [hfr]; exact List.mem_cons_self ..))
theorem sealIf_stands {t : Tab} {s : St} {ls ep : Int} {x : (Int × Int) × Rc.Rec} (h : Stands t s x) (hok : okP t) : Stands (sealIf t s ls ep).2.1 (sealIf t s ls ep).1 x := by
  unfold sealIf
  split
  · exact seal_stands h hok
  · exact h
theorem put_stands {t : Tab} {s : St} {ls ep K V D : Int} {I X : ByteArray} {x : (Int × Int) × Rc.Rec} (h : Stands t s x) (hok : okP t) (hr : lastN t.l ≠ t.st) : Stands (appS.putS t s ls ep K V D I X).2.1 (appS.putS t s ls ep K V D I X).1 x := by
  unfold appS.putS
  split
  · exact h
  · exact (h.write hok _).counted hok (Tb.count_ok hok (count_yes hr))
theorem put_new {t : Tab} {s : St} {ls ep K V D : Int} {I X : ByteArray} (hok : okP t) (hr : lastN t.l ≠ t.st) (hd : ¬ s.dead) (hF : Rc.Fits ⟨ls, ep, K, V, D, I.data.toList, X.data.toList⟩) (hR : Rc.okR ⟨ls, ep, K, V, D, I.data.toList, X.data.toList⟩ = true) :
    Stands (appS.putS t s ls ep K V D I X).2.1 (appS.putS t s ls ep K V D I X).1 ((lastN t.o, lastN t.l), ⟨ls, ep, K, V, D, I.data.toList, X.data.toList⟩) := by
  have hok2 := Tb.count_ok hok (count_yes hr)
  unfold appS.putS
  rw [if_neg hd]
  refine ⟨Tb.last_mem hok.2.2.1, (open_bd hok).2.1, ?_, ?_, hF, hR⟩
  · show lastN t.l < _
    rw [len_put hok hok2]
    omega
  · exact (cur_write ..).trans (if_pos rfl)
theorem app_stands {t : Tab} {s : St} {ls ep K V D : Int} {I X : ByteArray} {x : (Int × Int) × Rc.Rec} {c : Nat} {gn : Int} (h : Stands t s x) (hP : LogP c t s ls gn) : Stands (appS t s ls ep K V D I X).2.1 (appS t s ls ep K V D I X).1 x := by
  have hs := sealIf_p (ep := ep) hP
  unfold appS
  split
  · exact h
  · split
    · exact h
    · split
      · exact sealIf_stands h hP.ok
      · rename_i he
        exact put_stands (sealIf_stands h hP.ok) hs.ok (sealIf_room hP.ok (by omega))
theorem read_stands {t : Tab} {s : St} {x : (Int × Int) × Rc.Rec} (h : Stands t s x) : readS t s x.1.1 x.1.2 = (#[.int .u64 x.2.l, .int .u32 x.2.e, .int .i64 x.2.k, .int .u64 x.2.v, .int .u64 x.2.d, .string ⟨x.2.i.toArray⟩, .string ⟨x.2.a.toArray⟩], 0) := by
  unfold readS
  rw [if_neg (by have := h.lo; have := h.hi; omega), h.cur]
  unfold cutC decE
  rw [← secB_eq, if_pos (Rc.isSec_secL h.fits h.ok), if_pos (Rc.isSec_secL h.fits h.ok), Rc.cutR_secL h.fits h.ok]
end Go.Proofs.YtdpmjlbkojhooaaGreat.Lg
