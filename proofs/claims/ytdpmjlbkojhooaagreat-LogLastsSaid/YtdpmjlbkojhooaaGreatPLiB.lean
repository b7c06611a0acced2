/- A part of the proofs of the statements about logs. -/
import Derived.Test.YtdpmjlbkojhooaaGreatPLiA
namespace Go.Proofs.YtdpmjlbkojhooaaGreat.Lg
open Go.RowKit Go.Lib
open Tb (Tab TIn Sl okP csT lastN nth Fresh)
open Dk (St Only Grew)
set_option linter.unusedVariables false
set_option maxRecDepth 100000
structure Again (k Z : Int) (i : Nat) (t : Tab) (s : St) (ls : Int) : Prop where
  p : LogP (100 + 2 * i) t s ls 2
  set : s.set = false
  st : t.st = Z
  z : 1 ≤ Z ∧ Z ≤ 5
  at_ : (i = 0 ∧ lastN t.l = t.st ∧ Tb.freeT t = [k]) ∨ (0 < i ∧ lastN t.o = k ∧ lastN t.l = i ∧ Tb.freeT t = [])
theorem free_len1 {t : Tab} (hok : okP t) : Tb.roomT t = t.st - lastN t.l + t.st * (Tb.freeT t).length := by
  have := Tb.ok_free hok
  unfold Tb.roomT
  rw [show t.sg - (t.o.length : Int) = ((Tb.freeT t).length : Int) by omega]
theorem Again.room {k Z ls : Int} {i : Nat} {t : Tab} {s : St} (h : Again k Z i t s ls) : Tb.roomT t = Z - i := by
  rw [free_len1 h.p.ok]
  rcases h.at_ with ⟨h1, h2, h3⟩ | ⟨h1, h2, h3, h4⟩
  · rw [h2, h3, h.st, h1]
    simp
  · rw [h3, h4, h.st]
    simp
theorem drop_again {G Z k ls : Int} {i : Nat} {t : Tab} {s : St} (h : Run G Z i t s ls) (hi : (i : Int) = G * Z) (hs : s.set = false) (hk : 0 ≤ k ∧ k < G - 1) :
    ∃ u s1, Tb.dropT t k = some u ∧ dropS t k s 1 (dropB t k 1 1 ls 5) = (s1, u, 2, 0) ∧ Again k Z 0 u s1 ls := by
  obtain ⟨hr, hf, hls, hpl, hla, ho⟩ := h.last hi
  have hg := h.g
  have hz := h.z
  have hi30 : (i : Int) ≤ 30 := by
    rw [hi]
    exact Int.mul_le_mul (show G ≤ 6 by omega) (show Z ≤ 5 by omega) (by omega) (by omega)
  have hmem : k ∈ t.o := by rw [ho, Tb.mem_upto]; omega
  have hlen : t.o.length = G.toNat := by rw [ho, upto_len]
  have hll : t.l.length = t.o.length := h.p.ok.2.2.2.2.2.2.1
  have hidx : Tb.idx t.o k = (t.o.idxOf k : Nat) := Tb.idx_yes hmem
  have hlt : t.o.idxOf k < t.o.length := List.idxOf_lt_length_iff.2 hmem
  have hat : t.o[t.o.idxOf k] = k := List.getElem_idxOf hlt
  have hne : t.o.idxOf k + 1 ≠ t.o.length := fun e => by
    have h1 : lastN t.o = k := by
      unfold lastN
      rw [show t.o.length - 1 = t.o.idxOf k by omega, Tb.nth_lt hlt, hat]
    have h2 := Tb.last_mem (l := t.o) (by omega)
    have h3 : lastN t.o = G - 1 := by
      obtain ⟨m, hm⟩ : ∃ m, G.toNat = m + 1 := ⟨G.toNat - 1, by omega⟩
      rw [ho, hm, Tb.upto_succ, Tb.last_app]
      omega
    omega
  obtain ⟨u, hu⟩ : ∃ u, Tb.dropT t k = some u := by
    refine ⟨_, if_neg ?_⟩
    rw [hidx]
    omega
  have hu2 : u = Tb.droppedT t (t.o.idxOf k) := by
    unfold Tb.dropT at hu
    split at hu
    · cases hu
    · injection hu with hu
      rw [← hu, hidx]
      rfl
  have hcs : dropS t k s 1 (dropB t k 1 1 ls 5) = ((chkS s 1 (dropB t k 1 1 ls 5)).1, u, 2, 0) := by
    unfold dropS
    rw [hu]
    simp only
    rw [chk_free hs]
    rfl
  have hp := drop_p (x := k) (S := dropB t k 1 1 ls 5) h.p (fun u hu => dropB_size h.p.ok h.p.gn1 h.p.ls1 hu)
  rw [hcs] at hp
  replace hp : LogP (2 * i + 1) u (chkS s 1 (dropB t k 1 1 ls 5)).1 ls 2 := hp
  refine ⟨u, _, hu, hcs, hp.le (by omega), by rw [chk_free hs]; exact hs, by rw [hu2]; exact h.st, hz, .inl ⟨rfl, ?_, ?_⟩⟩
  · rw [hu2]
    show lastN (t.l.eraseIdx _) = t.st
    rw [Tb.last_erase (by omega)]
    exact hla
  · have hok := hp.ok
    have hf2 := Tb.ok_free hok
    have hsg : u.sg = G := by rw [hu2]; exact h.sg
    have hol : u.o.length = G.toNat - 1 := by
      rw [hu2]
      show (t.o.eraseIdx _).length = _
      rw [List.length_eraseIdx, if_pos hlt, hlen]
    obtain ⟨f, e⟩ := List.length_eq_one_iff.1 (show (Tb.freeT u).length = 1 by omega)
    have hfi := Tb.free_in (t := u) (s := f) (by rw [e]; exact List.mem_cons_self ..) (by omega)
    have hft : f ∈ t.o := by rw [ho, Tb.mem_upto]; omega
    obtain ⟨n, hn, en⟩ := List.getElem_of_mem hft
    have hnk : n = t.o.idxOf k := by
      rcases Nat.lt_trichotomy n (t.o.idxOf k) with h1 | h1 | h1
      · exfalso
        refine hfi.2.2 ?_
        rw [hu2, ← en]
        show _ ∈ t.o.eraseIdx _
        rw [List.mem_eraseIdx_iff_getElem]
        exact ⟨n, by omega, by omega, rfl⟩
      · exact h1
      · exfalso
        refine hfi.2.2 ?_
        rw [hu2, ← en]
        show _ ∈ t.o.eraseIdx _
        rw [List.mem_eraseIdx_iff_getElem]
        exact ⟨n, by omega, by omega, rfl⟩
    subst hnk
    rw [e, ← en, hat]
theorem Again.next {k Z ls K V D : Int} {I X : ByteArray} {i : Nat} {t : Tab} {s : St} (h : Again k Z i t s ls) (hi : (i : Int) < Z) (hK : K ≠ 3) (hR : Rc.okR ⟨ls, 1, K, V, D, I.data.toList, X.data.toList⟩ = true) :
    ∃ s1 t1 l1, appS t s ls 1 K V D I X = (s1, t1, l1, k, (i : Int), 0) ∧ Again k Z (i + 1) t1 s1 l1 := by
  have hr : 0 < Tb.roomT t := by have := h.room; omega
  have hA := (app_p (ep := 1) (K := K) (V := V) (D := D) (I := I) (X := X) h.p).le (c' := 100 + 2 * (i + 1)) (by omega)
  have hz := h.z
  have hst := h.st
  have hl1 := h.p.ok.2.2.1
  have hll := h.p.ok.2.2.2.2.2.2.1
  rcases h.at_ with ⟨h1, h2, h3⟩ | ⟨h1, h2, h3, h4⟩
  · have E := app_roll2 (ep := 1) (not_dead h.set) (fun i S => not_dead h.set) hr hK hR h2 h3
    rw [E] at hA
    subst h1
    refine ⟨_, _, _, E, hA, h.set, hst, hz, .inr ⟨by omega, Tb.last_app .., ?_, ?_⟩⟩
    · show lastN ((Tb.openedT t k (ls + 1)).l.set _ _) = _
      rw [Tb.last_set _ _ (by show 1 ≤ (t.l ++ [0]).length; simp)]
      have e2 : lastN (Tb.openedT t k (ls + 1)).l = 0 := Tb.last_app ..
      rw [e2]
      rfl
    · have e1 := Tb.ok_free h.p.ok
      have e2 : ((Tb.freeT (Tb.countedT (Tb.openedT t k (ls + 1)))).length : Int) + (Tb.countedT (Tb.openedT t k (ls + 1))).o.length = (Tb.countedT (Tb.openedT t k (ls + 1))).sg := Tb.ok_free hA.ok
      rw [h3] at e1
      have e3 : (Tb.countedT (Tb.openedT t k (ls + 1))).sg = t.sg := rfl
      have e4 : (Tb.countedT (Tb.openedT t k (ls + 1))).o.length = t.o.length + 1 := by show (t.o ++ [k]).length = _; simp
      simp at e1
      exact List.eq_nil_of_length_eq_zero (by omega)
  · have E := app_same2 (ep := 1) (not_dead h.set) hr hK hR (by omega)
    rw [E, h2, h3] at hA
    rw [h2, h3] at E
    refine ⟨_, _, _, E, hA, h.set, hst, hz, .inr ⟨by omega, h2, ?_, ?_⟩⟩
    · show lastN (t.l.set _ _) = _
      rw [Tb.last_set _ _ (by omega), h3]
      rfl
    · exact h4
structure AllS (G Z : Int) (a x : Nat) (t : Tab) (s : St) (ls : Int) : Prop where
  p : LogP (12 * a + 2 * x) t s ls 1
  set : s.set = false
  st : t.st = Z
  sg : t.sg = G
  z : 1 ≤ Z ∧ Z ≤ 5
  g : 4 ≤ G ∧ G ≤ 6
  ag : (a : Int) < G
  xz : (x : Int) ≤ Z
  o : t.o = Tb.upto (a + 1)
  last : lastN t.l = x
  all : ∀ p q : Int, p ∈ t.o → 0 ≤ q → q < Tb.lenT t p → ∃ r, Stands t s ((p, q), r) ∧ r.v = p * 100 + q
theorem alls_new {G Z : Int} {s : St} {t : Tab} (h : NewL G Z s t) : AllS G Z 0 0 t s 1 := by
  have hl := h.fill.lasts
  have hz := h.z
  have hg := h.g
  refine ⟨h.p, h.set, h.st, h.sg, h.z, h.g, by omega, by omega, h.fill.o, hl.2, fun p q hp hq hlt => ?_⟩
  exfalso
  rw [h.fill.o, Tb.mem_upto] at hp
  have e := len_last h.p.ok
  rw [hl.1, hl.2] at e
  have : p = ((1 : Nat) : Int) - 1 := by omega
  rw [this, e] at hlt
  omega
theorem len_counted_ne {t : Tab} {x : Int} (hok : okP t) (hok2 : okP (Tb.countedT t)) (hx : x ∈ t.o) (hne : x ≠ lastN t.o) : Tb.lenT (Tb.countedT t) x = Tb.lenT t x := by
  obtain ⟨i, hi, rfl⟩ := mem_at hx
  have h2 := hok.2.2.2.2.2.2.1
  have e := len_at hok2 (i := i) hi
  have e1 : nth (Tb.countedT t).o i = nth t.o i := rfl
  rw [e1] at e
  rw [e, len_at hok hi]
  show nth (t.l.set (t.l.length - 1) (lastN t.l + 1)) i = nth t.l i
  rw [nth_set_ne]
  intro h
  apply hne
  unfold lastN
  rw [← h, ← h2]
theorem AllS.last_o {G Z ls : Int} {a x : Nat} {t : Tab} {s : St} (h : AllS G Z a x t s ls) : lastN t.o = a := by
  rw [h.o, Tb.upto_succ, Tb.last_app]
theorem AllS.room {G Z ls : Int} {a x : Nat} {t : Tab} {s : St} (h : AllS G Z a x t s ls) (hx : (x : Int) < Z) : 0 < Tb.roomT t := by
  rw [free_len1 h.p.ok, h.last, h.st]
  have := Int.mul_nonneg (show 0 ≤ Z by have := h.z; omega) (show 0 ≤ ((Tb.freeT t).length : Int) by omega)
  omega
theorem AllS.next {G Z ls D : Int} {I X : ByteArray} {a x : Nat} {t : Tab} {s : St} (h : AllS G Z a x t s ls) (hx : (x : Int) < Z) (hD : 0 ≤ D ∧ D < 18446744073709551616) (hR : Rc.okR ⟨ls, 1, 1, (a : Int) * 100 + x, D, I.data.toList, X.data.toList⟩ = true) :
    ∃ s1 t1 l1, appS t s ls 1 1 ((a : Int) * 100 + x) D I X = (s1, t1, l1, (a : Int), (x : Int), 0) ∧ AllS G Z a (x + 1) t1 s1 l1 := by
  have hr := h.room hx
  have hz := h.z
  have hg := h.g
  have hag := h.ag
  have hst := h.st
  have hla := h.last
  have hl : lastN t.l ≠ t.st := by omega
  have E := app_same2 (ep := 1) (not_dead h.set) hr (by decide : (1 : Int) ≠ 3) hR hl
  have hA := (app_p (ep := 1) (K := 1) (V := (a : Int) * 100 + x) (D := D) (I := I) (X := X) h.p).le (c' := 12 * a + 2 * (x + 1)) (by omega)
  have b1 := h.p.ls1
  have b2 := h.p.ls2
  have hn := put_new (ls := ls) (ep := 1) (K := 1) (V := (a : Int) * 100 + x) (D := D) (I := I) (X := X) h.p.ok hl (not_dead h.set) ⟨by simp only; omega, by simp only; omega, by show (0 : Int) ≤ 1; decide, by show (1 : Int) < 4294967296; decide, by simp only; omega, by simp only; omega, hD.1, hD.2⟩ hR
  have hE2 : appS.putS t s ls 1 1 ((a : Int) * 100 + x) D I X = (s.write (Tb.sectorT t.st (lastN t.o) (lastN t.l)) (secB ⟨ls, 1, 1, (a : Int) * 100 + x, D, I.data.toList, X.data.toList⟩), Tb.countedT t, ls + 1, lastN t.o, lastN t.l, 0) := by
    unfold appS.putS
    rw [if_neg (not_dead h.set)]
  rw [hE2] at hn
  have hold : ∀ y, Stands t s y → Stands (Tb.countedT t) (s.write (Tb.sectorT t.st (lastN t.o) (lastN t.l)) (secB ⟨ls, 1, 1, (a : Int) * 100 + x, D, I.data.toList, X.data.toList⟩)) y := fun y hy => by
    have := put_stands (ls := ls) (ep := 1) (K := 1) (V := (a : Int) * 100 + x) (D := D) (I := I) (X := X) hy h.p.ok hl
    rw [hE2] at this
    exact this
  rw [E] at hA
  have hlo := h.last_o
  have hlp := len_put h.p.ok hA.ok
  rw [hlo, hla] at hn
  refine ⟨_, _, _, by rw [E, hlo, hla], ?_⟩
  rw [hlo, hla] at hold hA
  refine ⟨hA, h.set, hst, h.sg, hz, hg, hag, by omega, h.o, ?_, fun p q hp hq hlt => ?_⟩
  · show lastN (t.l.set _ _) = _
    rw [Tb.last_set _ _ (by have := h.p.ok.2.2.1; have := h.p.ok.2.2.2.2.2.2.1; omega), hla]
    rfl
  · have hp' : p ∈ t.o := hp
    by_cases hpe : p = lastN t.o
    · by_cases hqx : q = x
      · refine ⟨⟨ls, 1, 1, (a : Int) * 100 + x, D, I.data.toList, X.data.toList⟩, ?_, ?_⟩
        · rw [hpe, hlo, hqx]
          exact hn
        · show (a : Int) * 100 + x = p * 100 + q
          rw [hpe, hlo, hqx]
      · rw [hpe, hlp, hla] at hlt
        obtain ⟨r, h1, h2⟩ := h.all p q hp' hq (by rw [hpe, len_last h.p.ok, hla]; omega)
        exact ⟨r, hold _ h1, h2⟩
    · rw [len_counted_ne h.p.ok hA.ok hp' hpe] at hlt
      obtain ⟨r, h1, h2⟩ := h.all p q hp' hq hlt
      exact ⟨r, hold _ h1, h2⟩
theorem AllS.seal {G Z ls : Int} {a x : Nat} {t : Tab} {s : St} (h : AllS G Z a x t s ls) (ha : (a : Int) + 1 < G) :
    ∃ s1 t1 l1, sealS t s ls (footB t ls 1) = (s1, t1, l1, 0) ∧ AllS G Z (a + 1) 0 t1 s1 l1 := by
  have hz := h.z
  have hg := h.g
  have hxz := h.xz
  have hsg := h.sg
  obtain ⟨l, hf⟩ : ∃ l, Tb.freeT t = ((a + 1 : Nat) : Int) :: l := by
    unfold Tb.freeT
    rw [h.o]
    exact free_upto (by omega)
  have E : sealS t s ls (footB t ls 1) = (s.write (Tb.sectorT t.st (lastN t.o) (lastN t.l)) (footB t ls 1), Tb.openedT t ((a + 1 : Nat) : Int) (ls + 1), ls + 1, 0) := by
    unfold sealS
    simp only [hf]
    rw [if_neg (not_dead h.set)]
  have hp := (seal_p h.p (S := footB t ls 1) fun f l hf => footB_size h.p.ok h.p.ls1 hf).le (c' := 12 * (a + 1) + 2 * 0) (by omega)
  have hS : ∀ y, Stands t s y → Stands (sealS t s ls (footB t ls 1)).2.1 (sealS t s ls (footB t ls 1)).1 y := fun y hy => seal_stands hy h.p.ok
  rw [E] at hp hS
  refine ⟨_, _, _, E, hp, h.set, h.st, hsg, hz, hg, by omega, by omega, ?_, ?_, fun p q hp1 hq hlt => ?_⟩
  · show t.o ++ [_] = _
    rw [h.o, Tb.upto_succ (a + 1)]
  · exact Tb.last_app ..
  · have hp2 : p ∈ t.o ++ [((a + 1 : Nat) : Int)] := hp1
    rw [List.mem_append] at hp2
    rcases hp2 with h1 | h1
    · rw [len_opened h.p.ok hp.ok h1] at hlt
      obtain ⟨r, h3, h4⟩ := h.all p q h1 hq hlt
      exact ⟨r, hS _ h3, h4⟩
    · exfalso
      have e := len_last hp.ok
      have e1 : lastN (Tb.openedT t ((a + 1 : Nat) : Int) (ls + 1)).o = ((a + 1 : Nat) : Int) := Tb.last_app ..
      have e2 : lastN (Tb.openedT t ((a + 1 : Nat) : Int) (ls + 1)).l = 0 := Tb.last_app ..
      rw [e1, e2] at e
      rw [List.mem_singleton] at h1
      rw [h1, e] at hlt
      omega
theorem AllS.done {G Z ls : Int} {a x : Nat} {t : Tab} {s : St} (h : AllS G Z a x t s ls) (ha : (a : Int) + 1 = G) : Tb.freeT t = [] ∧ sealS t s ls (footB t ls 1) = (s, t, ls, 10) := by
  have h1 := Tb.ok_free h.p.ok
  have hsg := h.sg
  rw [h.o, upto_len] at h1
  have hf : Tb.freeT t = [] := List.eq_nil_of_length_eq_zero (by omega)
  refine ⟨hf, ?_⟩
  unfold sealS
  simp only [hf]
theorem live_ok {ls v : Int} {c : UInt8} (hls : ls ≠ 0) (hc : Rc.okR ⟨1, 1, 1, 0, 9, [c], [118]⟩ = true) : Rc.okR ⟨ls, 1, 1, v, 9, (bC c).data.toList, (bC 118).data.toList⟩ = true := by
  rw [Rc.okR_iff] at hc ⊢
  refine ⟨hls, ?_⟩
  rcases hc.2 with h | h | h
  · exact .inl h
  · exact absurd h.1 (show ¬ (1 : Int) = 2 by decide)
  · exact absurd h.1 (show ¬ (1 : Int) = 3 by decide)
end Go.Proofs.YtdpmjlbkojhooaaGreat.Lg
