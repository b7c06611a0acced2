/- A part of the proofs of the statements about logs. -/
import Derived.Test.YtdpmjlbkojhooaaGreatPLiD
namespace Go.Proofs.YtdpmjlbkojhooaaGreat.Lg
open Go.RowKit Go.Lib
open Tb (Tab TIn Sl okP csT lastN nth Fresh)
open Dk (St Only Grew)
set_option linter.unusedVariables false
set_option maxRecDepth 100000
theorem sec_ge2 {t : Tab} (hok : okP t) : 2 ≤ Tb.sectorT t.st (lastN t.o) (lastN t.l) := by
  have b1 := open_bd hok
  have b0 := hok.1
  have b2 := hok.2.1
  unfold Tb.sectorT
  rw [if_pos ⟨b2.1, b2.2, b1.1.1, by omega, b1.2.1, b1.2.2⟩]
  have := Int.mul_nonneg b1.1.1 (show 0 ≤ t.st + 1 by omega)
  omega
theorem seal_cur1 {t : Tab} {s : St} {ls : Int} {S : ByteArray} (hok : okP t) : (sealS t s ls S).1.cur 1 = s.cur 1 := by
  unfold sealS
  split
  · rfl
  · split
    · rfl
    · have := sec_ge2 hok
      exact (cur_write ..).trans (if_neg (by omega))
theorem app_cur1 {c : Nat} {t : Tab} {s : St} {ls ep gn K V D : Int} {I X : ByteArray} (hP : LogP c t s ls gn) : (appS t s ls ep K V D I X).1.cur 1 = s.cur 1 := by
  have hs := sealIf_p (ep := ep) hP
  have h1 : (sealIf t s ls ep).1.cur 1 = s.cur 1 := by
    unfold sealIf
    split
    · exact seal_cur1 hP.ok
    · rfl
  unfold appS
  split
  · rfl
  · split
    · rfl
    · split
      · exact h1
      · unfold appS.putS
        split
        · exact h1
        · have := sec_ge2 hs.ok
          exact ((cur_write ..).trans (if_neg (by omega))).trans h1
theorem new_cur1 {G Z rt : Int} {x : Nat} (hm : Ck.MayC G Z x rt) (hG : G ≤ 6) (hZ : Z ≤ 5) : (nD G Z x rt).cur 1 = S0 := by
  have hs : ¬ (St.new (Ck.scC G Z x rt)).size < Ck.scC G Z x rt := by show ¬ Ck.scC G Z x rt < Ck.scC G Z x rt; omega
  have e1 : nD G Z x rt = (((St.new (Ck.scC G Z x rt)).flush.write ((0 + 1) % 2) S0).flush) := by
    unfold nD fmtD
    rw [if_pos hm, if_neg hs, chk_free rfl]
  have hb := sc_bd hm hG hZ
  have hd := may_bd hm hG hZ
  have h2 : 2 ≤ Ck.scC G Z x rt := by
    rw [sc_may hm]
    have := Int.mul_nonneg (show 0 ≤ G by omega) (show 0 ≤ Z + 1 by omega)
    omega
  have g0 := Dk.St.Good.new hb.1 hb.2
  have g1 := (g0.flush (not_dead rfl)).write (not_dead rfl) (i := (0 + 1) % 2) (x := S0) ⟨by decide, by show (0 + 1) % 2 < Ck.scC G Z x rt; omega⟩ S0_size
  rw [e1]
  exact fix_flush (i := 1) g1
theorem chk_cur {s : St} (hg : s.Good) (hz : 2 ≤ s.size) (hs : s.set = false) (gn : Int) {S : ByteArray} (hS : S.size = 128) : (chkS s gn S).1.pend = [] ∧ (chkS s gn S).1.cur ((gn + 1) % 2) = S ∧ ∀ i, i ≠ (gn + 1) % 2 → (chkS s gn S).1.cur i = s.cur i := by
  rw [chk_free hs]
  have g1 := hg.flush (not_dead hs)
  have g2 := g1.write (not_dead hs) (i := (gn + 1) % 2) (x := S) ⟨by omega, by show _ < s.size; omega⟩ hS
  refine ⟨rfl, fix_flush g2, fun i hi => ?_⟩
  have e : ((s.flush.write ((gn + 1) % 2) S).flush).cur i = (s.flush.write ((gn + 1) % 2) S).flush.held i := Dk.over_nil ..
  rw [e, Dk.flush_held g2, cur_write, if_neg (fun h => hi h.symm)]
  have e2 : s.flush.cur i = s.flush.held i := Dk.over_nil ..
  rw [e2, Dk.flush_held hg]
def MixOf (k : Nat) (M A B : ByteArray) : Prop := M.data.toList = A.data.toList.take k ++ B.data.toList.drop k
theorem mix_old {A B : ByteArray} : MixOf 0 B A B := by simp [MixOf]
theorem mix_new {A B : ByteArray} (hA : A.size = 128) (hB : B.size = 128) : MixOf 128 A A B := by
  unfold MixOf
  have h1 : A.data.toList.length = 128 := hA ▸ (Go.Lib.size_eq A).symm
  have h2 : B.data.toList.length = 128 := hB ▸ (Go.Lib.size_eq B).symm
  rw [List.take_of_length_le (by omega), List.drop_eq_nil_of_le (by omega), List.append_nil]
theorem crashed {s : St} {lim : Int} {S : ByteArray} (hg : s.Good) (hz : 2 ≤ s.size) (hp : s.pend = []) (hl : -9223372036854775808 ≤ lim ∧ lim ≤ 9223372036854775807) (hS : S.size = 128) (keep : Nat → Bool) (torn : Int) (n : Nat) (hn : n ≤ 128) :
    (((chkS (s.limit lim) 2 S).1).crash keep torn n).cur 0 = s.cur 0 ∧ ∃ k, k ≤ 128 ∧ MixOf k ((((chkS (s.limit lim) 2 S).1).crash keep torn n).cur 1) S (s.cur 1) := by
  have gL := hg.limit hl.1 hl.2
  have hh : ∀ i, s.held i = s.cur i := fun i => by unfold Dk.St.cur; rw [hp]; rfl
  have h1s : (s.cur 1).size = 128 := by rw [← hh]; exact hg.held 1
  have fl : ∀ i, ((s.limit lim).flush).held i = s.cur i := fun i => by
    rw [Dk.flush_held gL]
    rfl
  have cc : ∀ (q : St) i, (q.crash keep torn n).cur i = (q.crash keep torn n).held i := fun q i => Dk.over_nil ..
  unfold chkS
  split
  · have e : ∀ i, ((s.limit lim).crash keep torn n).cur i = s.cur i := fun i => by
      rw [cc]
      show Dk.crashTo keep torn n s.pend s.held s.pend.length i = _
      rw [hp]
      exact hh i
    exact ⟨e 0, 0, by decide, by simp only; rw [e 1]; exact mix_old⟩
  · rename_i hd
    split
    · have e : ∀ i, ((s.limit lim).flush.crash keep torn n).cur i = s.cur i := fun i => by
        rw [cc]
        show (s.limit lim).flush.held i = _
        exact fl i
      exact ⟨e 0, 0, by decide, by simp only; rw [e 1]; exact mix_old⟩
    · rename_i hd1
      split
      · have e : ∀ i, (((s.limit lim).flush.write ((2 + 1) % 2) S).crash keep torn n).cur i = if keep 0 then Dk.do1 ((s.limit lim).flush.held) (1, S) 128 i else if (0 : Int) = torn then Dk.do1 ((s.limit lim).flush.held) (1, S) n i else (s.limit lim).flush.held i := fun i => by
          rw [cc]
          show Dk.crashTo keep torn n [((2 + 1) % 2, S)] (s.limit lim).flush.held 1 i = _
          show (if keep 0 then Dk.do1 ((s.limit lim).flush.held) ((2 + 1) % 2, S) 128 else if ((0 : Nat) : Int) = torn then Dk.do1 ((s.limit lim).flush.held) ((2 + 1) % 2, S) n else (s.limit lim).flush.held) i = _
          by_cases k0 : keep 0 = true
          · rw [if_pos k0, if_pos k0]
            rfl
          · rw [if_neg k0, if_neg k0]
            by_cases k1 : (0 : Int) = torn
            · rw [if_pos k1, if_pos (show ((0 : Nat) : Int) = torn from k1)]
              rfl
            · rw [if_neg k1, if_neg (show ¬ ((0 : Nat) : Int) = torn from k1)]
        have d0 : ∀ k, Dk.do1 ((s.limit lim).flush.held) (1, S) k 0 = s.cur 0 := fun k => (if_neg (show ¬ (0 : Int) = 1 by decide)).trans (fl 0)
        have d1 : ∀ k, Dk.do1 ((s.limit lim).flush.held) (1, S) k 1 = Dk.mix k S (s.cur 1) := fun k => (if_pos rfl).trans (by rw [fl 1])
        have mx : ∀ k, MixOf k (Dk.mix k S (s.cur 1)) S (s.cur 1) := fun k => by simp [MixOf, Dk.mix]
        refine ⟨?_, ?_⟩
        · simp only
          rw [e 0]
          split
          · exact d0 _
          · split
            · exact d0 _
            · exact fl 0
        · simp only
          rw [e 1]
          split
          · exact ⟨128, Nat.le_refl _, by rw [d1]; exact mx _⟩
          · split
            · exact ⟨n, hn, by rw [d1]; exact mx _⟩
            · exact ⟨0, by decide, by rw [fl 1]; exact mix_old⟩
      · rename_i hd2
        have g1 := gL.flush hd
        have g2 := g1.write hd1 (i := (2 + 1) % 2) (x := S) ⟨by decide, by show (2 + 1) % 2 < s.size; omega⟩ hS
        have e : ∀ i, (((s.limit lim).flush.write ((2 + 1) % 2) S).flush.crash keep torn n).cur i = if (1 : Int) = i then S else s.cur i := fun i => by
          rw [cc]
          show ((s.limit lim).flush.write ((2 + 1) % 2) S).flush.held i = _
          rw [Dk.flush_held g2, cur_write]
          show (if (1 : Int) = i then S else _) = _
          split
          · rfl
          · have e2 : (s.limit lim).flush.cur i = (s.limit lim).flush.held i := Dk.over_nil ..
            rw [e2, fl]
        refine ⟨(e 0).trans (if_neg (by decide)), 128, Nat.le_refl _, ?_⟩
        simp only
        rw [e 1, if_pos rfl]
        exact mix_new hS h1s
theorem best_two {c1 c2 c3 : Cp.Chk} (f1 : Cp.Fits c1) (o1 : Cp.okC c1 = true) (f2 : Cp.Fits c2) (o2 : Cp.okC c2 = true) (f3 : Cp.Fits c3) (o3 : Cp.okC c3 = true) (h12 : c1.g ≤ c2.g) {T M A B : ByteArray} {k : Nat} (hk : k ≤ 128) (hT : Cp.secL c2 = T.data.toList) (hA : Cp.secL c3 = A.data.toList) (hB : Cp.secL c1 = B.data.toList) (hM : MixOf k M A B) :
    Cp.bestE T.data.toList M.data.toList = 0 ∧ (Cp.bestC T.data.toList M.data.toList = c2 ∨ Cp.bestC T.data.toList M.data.toList = c3) := by
  have i2 := Cp.isSec_secL f2 o2
  have d2 : Cp.decC (Cp.secL c2) = c2 := by rw [(Cp.dec_yes i2).1, Cp.cutC_secL f2 o2]
  unfold MixOf at hM
  rw [← hA, ← hB] at hM
  rw [← hT]
  refine ⟨Cp.bestE_yes (by rw [i2]; simp), ?_⟩
  unfold Cp.bestC
  rw [d2]
  have g0 := f2.g0
  cases hs : Cp.isSec M.data.toList
  · rw [(Cp.dec_no hs).1, if_neg (by show ¬ (0 : Int) > c2.g; omega)]
    exact .inl rfl
  · rw [hM] at hs
    rcases Cp.torn f3 o3 (Cp.secL_len o1) k hk hs with h' | h'
    · rw [hM, h', (Cp.dec_yes (Cp.isSec_secL f3 o3)).1, Cp.cutC_secL f3 o3]
      split
      · exact .inr rfl
      · exact .inl rfl
    · have e : ((Wd.getN ((Cp.secL c1).drop 120) : Nat) : Int) = c1.g := by
        rw [Cp.secL_last o1, Cp.getN_putL _ 8 (by omega), Nat.mod_eq_of_lt (by have := f1.g1; omega), Int.toNat_of_nonneg f1.g0]
      rw [hM, (Cp.dec_yes hs).1, if_neg (by rw [h', e]; omega)]
      exact .inl rfl
def tabI (A : Option Addr) (m : Nat) (B : Option Addr) (k : Nat) (o l : List Int) : Dk.Item := ⟨fun w G => Sl .i64 w A m o ∧ Sl .i64 w B k l ∧ 0 < m ∧ 0 < k ∧ ∀ b, G b ↔ (∃ x, A = some ⟨b, x, none⟩) ∨ (∃ x, B = some ⟨b, x, none⟩),
  fun {w w' G} ⟨h1, h2, hm, hk, hG⟩ hs hz => ⟨⟨h1.len, fun h0 => by
    obtain ⟨b, x, e, hb, hc⟩ := h1.cells h0
    exact ⟨b, x, e, Nat.lt_of_lt_of_le hb hz, fun j hj => (World.cell?_of_block (w := w) (w' := w') (hs b ((hG b).2 (.inl ⟨x, e⟩)))).trans (hc j hj)⟩⟩, ⟨h2.len, fun h0 => by
    obtain ⟨b, x, e, hb, hc⟩ := h2.cells h0
    exact ⟨b, x, e, Nat.lt_of_lt_of_le hb hz, fun j hj => (World.cell?_of_block (w := w) (w' := w') (hs b ((hG b).2 (.inr ⟨x, e⟩)))).trans (hc j hj)⟩⟩, hm, hk, hG⟩,
  fun ⟨h1, h2, hm, hk, hG⟩ b hb => by
    rcases (hG b).1 hb with ⟨x, e⟩ | ⟨x, e⟩
    · obtain ⟨b', x', e', hb', _⟩ := h1.cells hm
      rw [e] at e'
      injection e' with e'
      injection e' with e'
      rw [e']
      exact hb'
    · obtain ⟨b', x', e', hb', _⟩ := h2.cells hk
      rw [e] at e'
      injection e' with e'
      injection e' with e'
      rw [e']
      exact hb'⟩
section
variable {W w : World} {items : List Dk.Item} {g d c : Nat} {s : St} {t : Tab} {ls gn : Int}
theorem tab_keep (h : Dk.Sep W w (Dk.diskI d s :: PLog g d t ls 1 gn :: items)) :
    Calls Tryz.prog 24 #[.pointer (some ⟨g, 0, none⟩)] w fun e w' => ∃ A m p B k q C n r, e = .returned (.agg #[.int .i64 t.sg, .int .i64 t.st, .slice A m p, .slice B k q, .slice C n r]) ∧ Dk.Sep W w' ((Dk.diskI d s :: PLog g d t ls 1 gn :: items) ++ [tabI A m B k t.o t.l]) := by
  have hok := prg.ok h (j := 1) rfl
  refine (prg.tab h (j := 1) rfl).mono ?_
  rintro e w' ⟨A, m, p, B, k, q, C, n, r, W1, he, ht, hf, hb⟩
  have h1 := Tb.ok_full hok ht
  obtain ⟨ba, oa, ea, hba, _⟩ := ht.a.cells (by omega)
  obtain ⟨bb, ob, eb, hbb, _⟩ := ht.b.cells (by omega)
  refine ⟨A, m, p, B, k, q, C, n, r, he, h.new (tabI A m B k t.o t.l) (G := fun b => (∃ x, A = some ⟨b, x, none⟩) ∨ (∃ x, B = some ⟨b, x, none⟩)) ⟨ht.a, ht.b, by omega, by omega, fun _ => Iff.rfl⟩ (fun b hb' => ?_) hb⟩
  rcases hb' with ⟨x, e⟩ | ⟨x, e⟩
  · obtain ⟨b', x', e', hb', _⟩ := hf.1 (by omega)
    rw [e] at e'
    injection e' with e'
    injection e' with e'
    omega
  · obtain ⟨b', x', e', hb', _⟩ := hf.2.1 (by omega)
    rw [e] at e'
    injection e' with e'
    injection e' with e'
    omega
theorem tab_kept {j : Nat} {A : Option Addr} {m : Nat} {B : Option Addr} {k : Nat} {o l : List Int} (h : Dk.Sep W w items) (hj : items[j]? = some (tabI A m B k o l)) : Sl .i64 w A m o ∧ Sl .i64 w B k l := by
  obtain ⟨G, ⟨h1, h2, _⟩, _⟩ := h.at_ j hj
  exact ⟨h1, h2⟩
theorem chk_fix {s' : St} {gn' er ver : Int} {S : ByteArray} (h : Dk.Sep W w (Dk.diskI d s :: PLog g d t ls 1 gn :: items)) (hP : LogP c t s ls gn) (hc : c ≤ 1000) (hv : 0 ≤ ver ∧ ver < 18446744073709551616) (hS : Cp.secL ⟨gn + 1, 1, ls, ver, t.o, t.l⟩ = S.data.toList) (hA : chkS s gn S = (s', gn', er)) :
    Calls Tryz.prog 34 #[.pointer (some ⟨g, 0, none⟩), .int .u64 ver] w fun e w' => e = .returned (.int .i64 er) ∧ ∃ it, Dk.Sep W w' (Dk.diskI d s' :: it :: items) ∧ (er ≠ 9 → it = PLog g d t ls 1 gn') := by
  have g1 := hP.ls1
  have g2 := hP.ls2
  have g3 := hP.gn1
  have g4 := hP.gn2
  have g5 := hP.pend
  have H := prg.chk h (k := 0) (j := 1) rfl rfl (by decide) ver hv (by omega) ⟨by decide, by decide⟩ (by omega) hP.ok hP.size2 (by omega) S hS
  rw [hA] at H
  exact H
end
theorem slTb {W : World} {A : Option Addr} {m : Nat} {l : List Int} (h : Cp.Sl W A m l) : Sl .i64 W A m l := ⟨h.len, h.cells⟩
end Go.Proofs.YtdpmjlbkojhooaaGreat.Lg
