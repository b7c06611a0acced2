/- The program's take. -/
import Derived.Test.YtogfpakopckfoaaWpF
namespace Go.Proofs.Ytogfpakopckfoaa.Wl
open Go.RowKit Go.Lib Go.Maps
open Sp
set_option linter.unusedVariables false
set_option maxRecDepth 100000

/-- 'delete(m, x)' whose run is known, at a step of a region that draws its order. -/
theorem step_del {t k : TypeId} {ops : Array Oper} {o : Oper} {a : Act} {w : World} {K : Act → World → Prop} {Q : Exit → Act → World → Prop} {E : Prop} (hgd : o.guard = none) (s x : Operand)
    (ho : o.op = .call { callee := .builtin .delete, args := #[s, x], argTypes := #[t, k] }) (u1 u2 : Value) (hs : a.eval s = u1) (hx : a.eval x = u2) {v' : Value} {W5 : World}
    (hrun : ∀ ty, (Builtin.delete_ #[t, k] ty #[u1, u2]).run Try.prog w = .ok v' W5) (h : K (a.put o.dst v') W5) :
    if Region.wanted o (yielded ops a.tmps) = true then Oper.wp Try.prog o a w K Q else E := by
  have hw : Region.wanted o (yielded ops a.tmps) = true := by simp [Region.wanted, hgd]
  rw [if_pos hw]
  unfold Oper.wp
  simp only [execOp, ho, resolve, invoke, builtin, Sem.run_bind, Sem.run_pure, Result.andThen_ok, List.map_toArray, List.map_cons, List.map_nil, hs, hx, hrun]
  exact h
/-- The last one of a list into a place of it. -/
def swp (l : List En) (j : Nat) (b : En) : List En := (l.set j b).dropLast
theorem swp_len (l : List En) (j : Nat) (b : En) : (swp l j b).length = l.length - 1 := by simp [swp]
theorem swp_get {l : List En} {j : Nat} {b : En} {i : Nat} (hi : i + 1 < l.length) : (swp l j b)[i]? = if i = j then some b else l[i]? := by
  unfold swp
  rw [List.dropLast_eq_take, List.getElem?_take_of_lt (by simp; omega), List.getElem?_set]
  by_cases e : j = i
  · subst e
    rw [if_pos rfl, if_pos (by omega), if_pos rfl]
  · rw [if_neg e, if_neg (fun h => e h.symm)]
theorem swp_perm {l : List En} {j m : Nat} {e b : En} (hn : l.length = m + 1) (hj : l[j]? = some e) (hb : l[m]? = some b) : l.Perm (e :: swp l j b) := by
  have hjm := (List.getElem?_eq_some_iff.1 hj).1
  have hs : l = l.take m ++ [b] := by
    have h1 : l.take (m + 1) = l.take m ++ [b] := by rw [List.take_add_one, hb]; rfl
    rw [← hn, List.take_length] at h1
    exact h1
  by_cases e1 : j = m
  · subst e1
    rw [hb] at hj
    injection hj with hj
    subst hj
    have h2 : swp l j b = l.take j := by
      unfold swp
      rw [List.dropLast_eq_take]
      simp only [List.length_set, hn, Nat.add_sub_cancel]
      apply List.ext_getElem?
      intro i
      rcases Nat.lt_or_ge i j with h3 | h3
      · rw [List.getElem?_take_of_lt h3, List.getElem?_take_of_lt h3, List.getElem?_set_ne (by omega)]
      · rw [List.getElem?_eq_none (by simp; omega), List.getElem?_eq_none (by simp; omega)]
    rw [h2]
    have := List.perm_append_comm (l₁ := l.take j) (l₂ := [b])
    rw [← hs] at this
    exact this
  · have h2 : swp l j b = (l.take m).set j b := by
      unfold swp
      rw [List.dropLast_eq_take]
      simp only [List.length_set, hn, Nat.add_sub_cancel]
      exact List.take_set ..
    have h3 : l.take m = (l.take m).take j ++ e :: (l.take m).drop (j + 1) := by
      have h4 : (l.take m)[j]? = some e := by rw [List.getElem?_take_of_lt (by omega)]; exact hj
      obtain ⟨h5, h6⟩ := List.getElem?_eq_some_iff.1 h4
      rw [← h6, List.getElem_cons_drop, List.take_append_drop]
    have h4 : (l.take m).set j b = (l.take m).take j ++ b :: (l.take m).drop (j + 1) := by
      rw [List.set_eq_take_append_cons_drop, if_pos (by simp; omega)]
    rw [h2, h4]
    have h5 : l.Perm (((l.take m).take j ++ e :: (l.take m).drop (j + 1)) ++ [b]) := by rw [← h3, ← hs]
    refine h5.trans ?_
    generalize (l.take m).take j = x
    generalize (l.take m).drop (j + 1) = y
    have p1 : (x ++ e :: y ++ [b]).Perm (e :: (x ++ y) ++ [b]) := List.Perm.append_right [b] List.perm_middle
    have p2 : (e :: (x ++ y) ++ [b]).Perm (e :: (b :: (x ++ y))) := (List.perm_append_comm (l₁ := x ++ y) (l₂ := [b])).cons e
    exact (p1.trans p2).trans (List.perm_middle.symm.cons e)
section
variable {w Y : World} {g ma mf t : Nat} {v : Nat → Value} {sl : Nat → List En} {L A : List En} {p : En → Bool} {e b : En}
/-- An entry taken out of its slot, the last one in its place. -/
theorem MemW.pull (h : MemW w g ma mf v sl t L A p) (hA : AOk A) (he : e ∈ A) (hp : p e = true) {q j m r cap : Nat} (hq : q < 64) (hx : ix t e.n = q) (hn : (sl q).length = m + 1) (hj : (sl q)[j]? = some e) (hb : (sl q)[m]? = some b) (hv : v q = .slice (some ⟨r, 0, none⟩) (m + 1) cap)
    (y1 : Sp.Blk Y g 66 (whC t ma mf (upd v q (.slice (some ⟨r, 0, none⟩) m cap)))) (y2 : Y.ownsRow 0 75 1 (.slice (some ⟨r, 0, none⟩) m cap) m ((swp (sl q) j b).map En.ptr)) (y3 : Sp.Blk Y b.b 77 (enC b j))
    (hs : ∀ c, c < w.heap.size → c ≠ g → c ≠ r → c ≠ b.b → Y.heap[c]? = w.heap[c]?) : MemW Y g ma mf (upd v q (.slice (some ⟨r, 0, none⟩) m cap)) (upd sl q (swp (sl q) j b)) t L A (fun x => p x && !(x.b == e.b)) := by
  have hbA := ((h.in_sl hq).1 (List.mem_of_getElem? hb)).1
  have hrv : (v q).ownBlock = some r := by rw [hv]; rfl
  have hjm := (List.getElem?_eq_some_iff.1 hj).1
  have hnd : (sl q).Nodup := (h.per q hq).nodup_iff.2 (hA.nd.sublist List.filter_sublist)
  obtain ⟨q1, q2, q3, q4, q5, q6⟩ := h.part (w' := Y) (fun c => c = g ∨ c = r ∨ c = b.b) (fun c hf hc => hs c (h.lt c hf) (fun e1 => hc (.inl e1)) (fun e1 => hc (.inr (.inl e1))) (fun e1 => hc (.inr (.inr e1))))
  refine { blk := y1, am := q2 ?_, fm := ?_, ne := h.ne, ent := fun a ha => ?_, row := fun k hk => ?_, at_ := fun k hk i a hi => ?_, per := fun k hk => ?_, own := fun k k' hk hk' hne c hc => ?_ }
  · rintro (e1 | e1 | e1)
    · exact h.g_m.1 e1.symm
    · exact (h.r_m hq hrv).1 e1.symm
    · exact (h.e_m hbA).1 e1.symm
  · rw [(slP_take hA he hp).2 (by omega)]
    refine q3 ?_
    rintro (e1 | e1 | e1)
    · exact h.g_m.2 e1.symm
    · exact (h.r_m hq hrv).2 e1.symm
    · exact (h.e_m hbA).2 e1.symm
  · by_cases e1 : a.b = b.b
    · have := nodup_inj hA.b ha hbA e1
      subst this
      exact ⟨j, by have := h.len hA.n hq; omega, y3⟩
    · refine q4 a ha ?_
      rintro (e2 | e2 | e2)
      · exact h.g_e ha e2.symm
      · exact h.r_e hq hrv ha e2.symm
      · exact e1 e2
  · by_cases e1 : k = q
    · subst e1
      rw [upd_at, upd_at, swp_len, hn]
      exact y2
    · rw [upd_ne e1, upd_ne e1]
      refine q5 k hk fun c hc => ?_
      rintro (e2 | e2 | e2)
      · exact h.r_g hk hc e2
      · exact h.own k q hk hq e1 c hc (by rw [hrv, e2])
      · exact h.r_e hk hc hbA e2
  · by_cases e1 : k = q
    · subst e1
      rw [upd_at] at hi
      have hlt : i < m := by
        have := (List.getElem?_eq_some_iff.1 hi).1
        rw [swp_len] at this
        omega
      rw [swp_get (by omega)] at hi
      by_cases e2 : i = j
      · rw [if_pos e2] at hi
        injection hi with hi
        subst hi
        rw [e2]
        exact y3
      · rw [if_neg e2] at hi
        have ha := ((h.in_sl hk).1 (List.mem_of_getElem? hi)).1
        refine q6 k hk i a hi ?_
        rintro (e3 | e3 | e3)
        · exact h.g_e ha e3.symm
        · exact h.r_e hq hrv ha e3.symm
        · have := nodup_inj hA.b ha hbA e3
          subst this
          have := (List.getElem?_inj (by omega) hnd).1 (hi.trans hb.symm)
          omega
    · rw [upd_ne e1] at hi
      have ha := (h.in_sl hk).1 (List.mem_of_getElem? hi)
      refine q6 k hk i a hi ?_
      rintro (e3 | e3 | e3)
      · exact h.g_e ha.1 e3.symm
      · exact h.r_e hq hrv ha.1 e3.symm
      · have := nodup_inj hA.b ha.1 hbA e3
        subst this
        have := (h.in_sl hq).1 (List.mem_of_getElem? hb)
        exact e1 (ha.2.2.symm.trans this.2.2)
  · by_cases e1 : k = q
    · subst e1
      rw [upd_at]
      have h1 := (swp_perm hn hj hb).symm.trans (h.per k hk)
      exact (h1.trans ((slP_take hA he hp).1 hx)).cons_inv
    · rw [upd_ne e1, (slP_take hA he hp).2 (by omega)]
      exact h.per k hk
  · have hup : ∀ k c, (upd v q (.slice (some ⟨r, 0, none⟩) m cap) k).ownBlock = some c → (v k).ownBlock = some c := fun k c hc => by
      by_cases e1 : k = q
      · subst e1
        rw [upd_at] at hc
        rw [hrv]
        exact hc
      · rw [upd_ne e1] at hc
        exact hc
    exact fun e3 => h.own k k' hk hk' hne c (hup k c hc) (hup k' c e3)
end
end Go.Proofs.Ytogfpakopckfoaa.Wl
