/- A part of the proofs of the statements about logs. -/
import Derived.Test.YtdpmjlbkojhooaaGreatPLhQ
namespace Go.Proofs.YtdpmjlbkojhooaaGreat.Lg
open Go.RowKit Go.Lib
open Tb (Tab TIn Sl okP csT lastN nth Fresh)
open Dk (St Only Grew)
set_option linter.unusedVariables false
set_option maxRecDepth 100000
def S0 : ByteArray := ⟨(Cp.secL ⟨1, 1, 1, 0, [0], [0]⟩).toArray⟩
theorem S0_eq : Cp.secL ⟨1, 1, 1, 0, [0], [0]⟩ = S0.data.toList := by simp [S0]
theorem S0_size : S0.size = 128 := (size_of S0_eq).trans (by rw [Cp.secL_len]; exact okC_of (t := Tb.newT 4 1 1) (Tb.new_ok rfl) (by decide) (by decide))
theorem chk_free {s : St} (hs : s.set = false) (gn : Int) (S : ByteArray) : chkS s gn S = ((s.flush.write ((gn + 1) % 2) S).flush, gn + 1, 0) := by
  unfold chkS
  rw [if_neg (not_dead hs), if_neg (not_dead (s := s.flush) hs), if_neg (not_dead (s := s.flush.write ((gn + 1) % 2) S) hs)]
def nD (G Z : Int) (x : Nat) (rt : Int) : St := fmtD (St.new (Ck.scC G Z x rt)) G Z x rt S0
structure NewL (G Z : Int) (s : St) (t : Tab) : Prop where
  p : LogP 0 t s 1 1
  set : s.set = false
  pend : s.pend = []
  fill : Fill t 1 1 0
  st : t.st = Z
  sg : t.sg = G
  z : 1 ≤ Z ∧ Z ≤ 5
  g : 4 ≤ G ∧ G ≤ 6
  size : s.size = 2 + G * (Z + 1)
theorem sc_may {G Z rt : Int} {x : Nat} (hm : Ck.MayC G Z x rt) : Ck.scC G Z x rt = 2 + G * (Z + 1) := by
  unfold Ck.scC
  rw [if_pos hm]
theorem may_bd {G Z rt : Int} {x : Nat} (hm : Ck.MayC G Z x rt) (hG : G ≤ 6) (hZ : Z ≤ 5) : (1 ≤ Z ∧ Z ≤ 5) ∧ (4 ≤ G ∧ G ≤ 6) := by
  obtain ⟨h1, h2, _⟩ := hm
  exact ⟨⟨by omega, hZ⟩, by omega, hG⟩
theorem sc_bd {G Z rt : Int} {x : Nat} (hm : Ck.MayC G Z x rt) (hG : G ≤ 6) (hZ : Z ≤ 5) : 1 ≤ Ck.scC G Z x rt ∧ Ck.scC G Z x rt ≤ 4096 := by
  rw [sc_may hm]
  obtain ⟨h1, h2⟩ := may_bd hm hG hZ
  have a1 := Int.mul_nonneg (show 0 ≤ G by omega) (show 0 ≤ Z + 1 by omega)
  have a2 := Int.mul_le_mul (show G ≤ 6 by omega) (show Z + 1 ≤ 6 by omega) (by omega) (by omega)
  omega
theorem new_yes {G Z rt : Int} {x : Nat} (hm : Ck.MayC G Z x rt) (hG : G ≤ 6) (hZ : Z ≤ 5) : fmtE (St.new (Ck.scC G Z x rt)) G Z x rt S0 = 0 ∧ NewL G Z (nD G Z x rt) (Tb.newT G Z 1) := by
  have hs : ¬ (St.new (Ck.scC G Z x rt)).size < Ck.scC G Z x rt := by show ¬ Ck.scC G Z x rt < Ck.scC G Z x rt; omega
  have e0 : fmtE (St.new (Ck.scC G Z x rt)) G Z x rt S0 = 0 := by
    unfold fmtE
    rw [if_pos hm, if_neg hs, chk_free rfl]
  have e1 : nD G Z x rt = (((St.new (Ck.scC G Z x rt)).flush.write ((0 + 1) % 2) S0).flush) := by
    unfold nD fmtD
    rw [if_pos hm, if_neg hs, chk_free rfl]
  obtain ⟨h1, h2⟩ := may_bd hm hG hZ
  refine ⟨e0, fmt_p (sc_bd hm hG hZ) S0_size e0, by rw [e1]; rfl, by rw [e1]; rfl, fill_new G Z h1.1, rfl, rfl, h1, h2, ?_⟩
  rw [e1]
  exact sc_may hm
theorem made_new {w0 w : World} (hw : Below w0.heap.size w0 w) {G Z rt : Int} {x : Nat} (hx : x < 18446744073709551616) (hm : Ck.MayC G Z x rt) (hG : G ≤ 6) (hZ : Z ≤ 5) :
    Calls Tryz.prog 11 #[.int .i64 (Ck.scC G Z x rt), .agg #[.int .i64 G, .int .i64 Z, .float .f64 x, .int .i64 rt]] w fun e w' =>
      ∃ g d, e = .returned (.tuple #[.pointer (some ⟨g, 0, none⟩), .pointer (some ⟨d, 0, none⟩), .int .i64 0]) ∧ Dk.Sep w0 w' [Dk.diskI d (nD G Z x rt), PLog g d (Tb.newT G Z 1) 1 1 1] := by
  refine (made_any prg (Dk.Sep.nil hw) (Ck.scC G Z x rt) G Z rt x hx S0 S0_eq).mono ?_
  rintro e w' (⟨hn, _⟩ | ⟨_, hE, _⟩ | ⟨_, _, g, d, rfl, h1⟩)
  · have := sc_bd hm hG hZ
    omega
  · exact absurd (new_yes hm hG hZ).1 hE
  · exact ⟨g, d, rfl, h1⟩
section
variable {t : Tab} {s : St} {ls ep K V D : Int} {I X : ByteArray}
theorem app_same2 (hnd : ¬ s.dead) (hr : 0 < Tb.roomT t) (hK : K ≠ 3) (hR : Rc.okR ⟨ls, ep, K, V, D, I.data.toList, X.data.toList⟩ = true) (hl : lastN t.l ≠ t.st) :
    appS t s ls ep K V D I X = (s.write (Tb.sectorT t.st (lastN t.o) (lastN t.l)) (secB ⟨ls, ep, K, V, D, I.data.toList, X.data.toList⟩), Tb.countedT t, ls + 1, lastN t.o, lastN t.l, 0) := by
  have E : sealIf t s ls ep = (s, t, ls, 0) := if_neg hl
  unfold appS
  rw [if_neg (by rw [hR]; simp [hK]), if_neg (by omega), E]
  simp only
  rw [if_neg (by decide)]
  unfold appS.putS
  rw [if_neg hnd]
theorem app_roll2 {f : Int} {l : List Int} (hnd : ¬ s.dead) (hnd2 : ∀ i S, ¬ (s.write i S).dead) (hr : 0 < Tb.roomT t) (hK : K ≠ 3) (hR : Rc.okR ⟨ls, ep, K, V, D, I.data.toList, X.data.toList⟩ = true) (hl : lastN t.l = t.st) (hf : Tb.freeT t = f :: l) :
    appS t s ls ep K V D I X = ((s.write (Tb.sectorT t.st (lastN t.o) (lastN t.l)) (footB t ls ep)).write (Tb.sectorT t.st f 0) (secB ⟨ls + 1, ep, K, V, D, I.data.toList, X.data.toList⟩), Tb.countedT (Tb.openedT t f (ls + 1)), ls + 2, f, 0, 0) := by
  have E : sealIf t s ls ep = (s.write (Tb.sectorT t.st (lastN t.o) (lastN t.l)) (footB t ls ep), Tb.openedT t f (ls + 1), ls + 1, 0) := by
    unfold sealIf
    rw [if_pos hl]
    unfold sealS
    simp only [hf]
    rw [if_neg hnd]
  have e1 : lastN (Tb.openedT t f (ls + 1)).o = f := Tb.last_app ..
  have e2 : lastN (Tb.openedT t f (ls + 1)).l = 0 := Tb.last_app ..
  unfold appS
  rw [if_neg (by rw [hR]; simp [hK]), if_neg (by omega), E]
  simp only
  rw [if_neg (by decide)]
  unfold appS.putS
  rw [if_neg (hnd2 _ _), e1, e2, show ls + 1 + 1 = ls + 2 by omega]
  rfl
theorem app_dead1 (hd : s.dead) (hr : 0 < Tb.roomT t) (hK : K ≠ 3) (hR : Rc.okR ⟨ls, ep, K, V, D, I.data.toList, X.data.toList⟩ = true) (hf : lastN t.l = t.st → ∃ f l, Tb.freeT t = f :: l) : (appS t s ls ep K V D I X).2.2.2.2.2 = 9 := by
  unfold appS
  rw [if_neg (by rw [hR]; simp [hK]), if_neg (by omega)]
  by_cases hl : lastN t.l = t.st
  · obtain ⟨f, l, hf⟩ := hf hl
    have E : sealIf t s ls ep = (s, t, ls, 9) := by
      unfold sealIf
      rw [if_pos hl]
      unfold sealS
      simp only [hf]
      rw [if_pos hd]
    rw [E]
    rfl
  · have E : sealIf t s ls ep = (s, t, ls, 0) := if_neg hl
    rw [E]
    simp only
    rw [if_neg (by decide)]
    unfold appS.putS
    rw [if_pos hd]
theorem app_dead2 {f : Int} {l : List Int} (hnd : ¬ s.dead) (hnd2 : ∀ i S, (s.write i S).dead) (hr : 0 < Tb.roomT t) (hK : K ≠ 3) (hR : Rc.okR ⟨ls, ep, K, V, D, I.data.toList, X.data.toList⟩ = true) (hl : lastN t.l = t.st) (hf : Tb.freeT t = f :: l) : (appS t s ls ep K V D I X).2.2.2.2.2 = 9 := by
  have E : sealIf t s ls ep = (s.write (Tb.sectorT t.st (lastN t.o) (lastN t.l)) (footB t ls ep), Tb.openedT t f (ls + 1), ls + 1, 0) := by
    unfold sealIf
    rw [if_pos hl]
    unfold sealS
    simp only [hf]
    rw [if_neg hnd]
  unfold appS
  rw [if_neg (by rw [hR]; simp [hK]), if_neg (by omega), E]
  simp only
  rw [if_neg (by decide)]
  unfold appS.putS
  rw [if_pos (hnd2 _ _)]
end
structure Run (G Z : Int) (i : Nat) (t : Tab) (s : St) (ls : Int) : Prop where
  p : LogP (2 * i) t s ls 1
  g : 4 ≤ G ∧ G ≤ 6
  z : 1 ≤ Z ∧ Z ≤ 5
  st : t.st = Z
  sg : t.sg = G
  used : Tb.usedT t = i
  room : Tb.roomT t = G * Z - i
  fill : ∃ j x, Fill t ls j x ∧ (x = 0 → j = 1) ∧ s.pend.length = i + (j - 1)
theorem run_new {G Z : Int} {s : St} {t : Tab} (h : NewL G Z s t) : Run G Z 0 t s 1 := by
  have e1 := h.fill.room
  have e2 := h.fill.used
  rw [h.st, h.sg] at e1
  rw [h.st] at e2
  refine ⟨h.p, h.g, h.z, h.st, h.sg, by rw [e2]; simp, ?_, 1, 0, h.fill, fun _ => rfl, by rw [h.pend]; rfl⟩
  rw [e1, Int.mul_sub, Int.mul_comm G Z]
  omega
theorem run_limit {G Z ls n : Int} {i : Nat} {t : Tab} {s : St} (h : Run G Z i t s ls) (h1 : -9223372036854775808 ≤ n) (h2 : n ≤ 9223372036854775807) : Run G Z i t (s.limit n) ls := by
  obtain ⟨j, x, hf, hx, hp⟩ := h.fill
  exact ⟨⟨h.p.ok, h.p.fit, h.p.good.limit h1 h2, h.p.ls1, h.p.ls2, h.p.gn1, h.p.gn2, h.p.pend⟩, h.g, h.z, h.st, h.sg, h.used, h.room, j, x, hf, hx, hp⟩
theorem dvd_off {a b z : Int} (hz : 1 ≤ z) (ha : 0 ≤ a) (hb0 : 0 ≤ b) (hb : b < z) (h : (a * z + b).tmod z = 0) : b = 0 := by
  have hn : 0 ≤ a * z + b := by have := Int.mul_nonneg ha (show 0 ≤ z by omega); omega
  rw [Int.tmod_eq_emod_of_nonneg hn, Int.add_comm, Int.add_mul_emod_self_right, Int.emod_eq_of_lt hb0 hb] at h
  exact h
section
variable {G Z : Int} {i : Nat} {t : Tab} {s : St} {ls : Int}
theorem Run.full (h : Run G Z i t s ls) : lastN t.l = t.st ↔ (0 < (i : Int) ∧ (i : Int).tmod Z = 0) := by
  obtain ⟨j, x, hf, hx, hp⟩ := h.fill
  have hl := hf.lasts
  have hu := hf.used
  have hu2 := h.used
  have hx1 := hf.x1
  have hj := hf.j1
  have hz := h.z
  rw [h.st] at hu hx1 ⊢
  rw [hl.2]
  constructor
  · intro e
    rw [e] at hu
    have e1 : (i : Int) = j * Z := by rw [← hu2, hu, Int.sub_mul, Int.one_mul]; omega
    have e2 : Z ≤ (j : Int) * Z := by
      have := Int.mul_le_mul_of_nonneg_right (show (1 : Int) ≤ j by omega) (show 0 ≤ Z by omega)
      rw [Int.one_mul] at this
      exact this
    exact ⟨by omega, by rw [e1]; exact Int.mul_tmod_left ..⟩
  · rintro ⟨h0, hm⟩
    rcases Int.lt_or_le (x : Int) Z with hlt | hge
    · exfalso
      rw [show (i : Int) = ((j : Int) - 1) * Z + x by rw [← hu2, hu]] at hm
      have hx0 := dvd_off hz.1 (by omega) (by omega) hlt hm
      have := hx (by omega)
      subst this
      rw [hx0] at hu
      simp at hu
      omega
    · omega
theorem Run.free (h : Run G Z i t s ls) (hi : (i : Int) < G * Z) (hl : lastN t.l = t.st) : ∃ f l, Tb.freeT t = f :: l := by
  obtain ⟨j, x, hf, hx, hp⟩ := h.fill
  have h1 := hf.room
  have h2 := h.room
  rw [hf.lasts.2] at hl
  rw [hl] at h1
  have hz := h.z
  have hst := h.st
  have hj : (j : Int) < t.sg := by
    rcases Int.lt_or_le (j : Int) t.sg with h3 | h3
    · exact h3
    · have := Int.mul_nonneg (show 0 ≤ t.st by omega) (show 0 ≤ (j : Int) - t.sg by omega)
      rw [show (j : Int) - t.sg = -(t.sg - j) by omega, Int.mul_neg] at this
      omega
  obtain ⟨l, e⟩ := hf.next hj
  exact ⟨_, l, e⟩
variable {K V D : Int} {I X : ByteArray}
theorem Run.dead (h : Run G Z i t s ls) (hi : (i : Int) < G * Z) (hK : K ≠ 3) (hR : Rc.okR ⟨ls, 1, K, V, D, I.data.toList, X.data.toList⟩ = true) (hs : s.set = true) {n : Int} (hn : s.left = n) (hlt : n < if 0 < (i : Int) ∧ (i : Int).tmod Z = 0 then 2 else 1) :
    (appS t s ls 1 K V D I X).2.2.2.2.2 = 9 := by
  have hr : 0 < Tb.roomT t := by have := h.room; omega
  by_cases hd : s.dead
  · exact app_dead1 hd hr hK hR (h.free hi)
  have hd1 : ¬ s.left < 1 := fun e => hd ⟨hs, e⟩
  by_cases hl : 0 < (i : Int) ∧ (i : Int).tmod Z = 0
  · rw [if_pos hl] at hlt
    obtain ⟨f, l, hf⟩ := h.free hi (h.full.2 hl)
    refine app_dead2 hd (fun i S => ⟨hs, ?_⟩) hr hK hR (h.full.2 hl) hf
    show (if s.set then s.left - 1 else s.left) < 1
    rw [if_pos hs]
    omega
  · rw [if_neg hl] at hlt
    omega
theorem Run.next (h : Run G Z i t s ls) (hi : (i : Int) < G * Z) (hK : K ≠ 3) (hR : Rc.okR ⟨ls, 1, K, V, D, I.data.toList, X.data.toList⟩ = true) (hs : s.set = true → ¬ s.left < if 0 < (i : Int) ∧ (i : Int).tmod Z = 0 then 2 else 1) :
    ∃ s1 t1 l1 sg so, appS t s ls 1 K V D I X = (s1, t1, l1, sg, so, 0) ∧ Run G Z (i + 1) t1 s1 l1 ∧ s1.set = s.set ∧ (s.set = true → s1.left = s.left - if 0 < (i : Int) ∧ (i : Int).tmod Z = 0 then 2 else 1) := by
  have hr : 0 < Tb.roomT t := by have := h.room; omega
  have hA := app_p (ep := 1) (K := K) (V := V) (D := D) (I := I) (X := X) h.p
  have hA1 := hA.le (c' := 2 * (i + 1)) (by omega)
  obtain ⟨j, x, hf, hx, hp⟩ := h.fill
  have hlx := hf.x1
  have hj1 := hf.j1
  have hst := h.st
  have hz := h.z
  have e3 := hf.room
  have e4 := hf.used
  have r1 := h.room
  have r2 := h.used
  have hnd : ¬ s.dead := fun hd => by
    have := hs hd.1
    have h2 := hd.2
    split at this <;> omega
  by_cases hl : lastN t.l = t.st
  · have hl2 := h.full.1 hl
    rw [if_pos hl2] at hs ⊢
    have hxst : (x : Int) = t.st := hf.lasts.2.symm.trans hl
    have hjs : (j : Int) < t.sg := by
      rw [hxst] at e3
      rcases Int.lt_or_le (j : Int) t.sg with h3 | h3
      · exact h3
      · have := Int.mul_nonneg (show 0 ≤ t.st by omega) (show 0 ≤ (j : Int) - t.sg by omega)
        rw [show (j : Int) - t.sg = -(t.sg - j) by omega, Int.mul_neg] at this
        omega
    obtain ⟨l, hfr⟩ := hf.next hjs
    have hnd2 : ∀ i S, ¬ (s.write i S).dead := fun i S hd => by
      have h1 : s.set = true := hd.1
      have h2 : (if s.set then s.left - 1 else s.left) < 1 := hd.2
      rw [if_pos h1] at h2
      have := hs h1
      omega
    have E := app_roll2 (ep := 1) hnd hnd2 hr hK hR hl hfr
    have F := hf.roll hxst (by omega) (ls + 1)
    rw [E] at hA1
    have e1 := F.room
    have e2 := F.used
    have f1 : (Tb.countedT (Tb.openedT t j (ls + 1))).st = t.st := rfl
    have f2 : (Tb.countedT (Tb.openedT t j (ls + 1))).sg = t.sg := rfl
    rw [f1, f2] at e1
    rw [f1] at e2
    refine ⟨_, _, _, _, _, E, ⟨hA1, h.g, h.z, h.st, h.sg, ?_, ?_, j + 1, 1, F, fun e => by omega, ?_⟩, rfl, fun h1 => ?_⟩
    · rw [e2, show ((j + 1 : Nat) : Int) - 1 = ((j : Int) - 1) + 1 by omega, Int.add_mul, Int.one_mul]
      omega
    · rw [e1, show t.sg - ((j + 1 : Nat) : Int) = (t.sg - j) - 1 by omega, Int.mul_sub, Int.mul_one]
      omega
    · show ((s.pend ++ [_]) ++ [_]).length = _
      simp
      omega
    · show (if s.set then (if s.set then s.left - 1 else s.left) - 1 else _) = _
      rw [if_pos h1, if_pos h1]
      omega
  · have hl2 : ¬ (0 < (i : Int) ∧ (i : Int).tmod Z = 0) := fun e => hl (h.full.2 e)
    rw [if_neg hl2] at hs ⊢
    have hxst : (x : Int) < t.st := by have := hf.lasts.2; omega
    have E := app_same2 (ep := 1) hnd hr hK hR hl
    have F := hf.same hxst
    rw [E] at hA1
    have e1 := F.room
    have e2 := F.used
    have f1 : (Tb.countedT t).st = t.st := rfl
    have f2 : (Tb.countedT t).sg = t.sg := rfl
    rw [f1, f2] at e1
    rw [f1] at e2
    refine ⟨_, _, _, _, _, E, ⟨hA1, h.g, h.z, h.st, h.sg, by rw [e2]; omega, by rw [e1]; omega, j, x + 1, F, fun e => by omega, ?_⟩, rfl, fun h1 => ?_⟩
    · show (s.pend ++ [_]).length = _
      simp
      omega
    · show (if s.set then s.left - 1 else s.left) = _
      rw [if_pos h1]
end
theorem Run.last {G Z ls : Int} {i : Nat} {t : Tab} {s : St} (h : Run G Z i t s ls) (hi : (i : Int) = G * Z) : Tb.roomT t = 0 ∧ Tb.freeT t = [] ∧ ls = G * Z + G ∧ (s.pend.length : Int) = G * Z + G - 1 ∧ lastN t.l = t.st ∧ t.o = Tb.upto G.toNat := by
  obtain ⟨j, x, hf, hx, hp⟩ := h.fill
  have r1 := h.room
  have e3 := hf.room
  have hlx := hf.x1
  have hg := h.g
  have hz := h.z
  have hst := h.st
  have hsg := h.sg
  have hj1 := hf.j1
  have hok := h.p.ok
  have hjG : (j : Int) ≤ t.sg := by
    have := Tb.ok_free hok
    rw [hf.o, upto_len] at this
    omega
  have h0 : t.st * (t.sg - j) = 0 ∧ (x : Int) = t.st := by
    have := Int.mul_nonneg (show 0 ≤ t.st by omega) (show 0 ≤ t.sg - j by omega)
    omega
  have hjs : (j : Int) = t.sg := by
    rcases Int.mul_eq_zero.1 h0.1 with h1 | h1 <;> omega
  have hls := hf.ls
  rw [h0.2, hjs, hst, hsg, Int.sub_mul, Int.one_mul] at hls
  refine ⟨by omega, hf.none hjs hok, by omega, by omega, hf.lasts.2.trans h0.2, ?_⟩
  rw [hf.o]
  congr 1
  omega
end Go.Proofs.YtdpmjlbkojhooaaGreat.Lg
