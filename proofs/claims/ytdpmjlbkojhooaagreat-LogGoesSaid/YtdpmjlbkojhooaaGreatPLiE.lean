/- A part of the proofs of the statements about logs. -/
import Derived.Test.YtdpmjlbkojhooaaGreatPLiD
import Derived.Test.YtdpmjlbkojhooaaGreatPLgW
import Derived.Test.YtdpmjlbkojhooaaGreatPLwF
namespace Go.Proofs.YtdpmjlbkojhooaaGreat.Lg
open Go.RowKit Go.Lib
open Tb (Tab TIn Sl okP csT lastN nth Fresh)
open Dk (St Only Grew)
set_option linter.unusedVariables false
set_option maxRecDepth 100000
theorem seal_set {t : Tab} {s : St} {ls : Int} {S : ByteArray} (h : s.set = false) : (sealS t s ls S).1.set = false ∧ (sealS t s ls S).2.2.2 ≠ 9 := by
  unfold sealS
  split
  · exact ⟨h, show (10 : Int) ≠ 9 by decide⟩
  · rw [if_neg (not_dead h)]
    exact ⟨h, show (0 : Int) ≠ 9 by decide⟩
theorem sealIf_set {t : Tab} {s : St} {ls ep : Int} (h : s.set = false) : (sealIf t s ls ep).1.set = false ∧ (sealIf t s ls ep).2.2.2 ≠ 9 := by
  unfold sealIf
  split
  · exact seal_set h
  · exact ⟨h, show (0 : Int) ≠ 9 by decide⟩
theorem app_set0 {t : Tab} {s : St} {ls ep K V D : Int} {I X : ByteArray} (h : s.set = false) : (appS t s ls ep K V D I X).1.set = false ∧ (appS t s ls ep K V D I X).2.2.2.2.2 ≠ 9 := by
  have h1 := sealIf_set (t := t) (ls := ls) (ep := ep) h
  unfold appS
  split
  · exact ⟨h, show (5 : Int) ≠ 9 by decide⟩
  · split
    · exact ⟨h, show (10 : Int) ≠ 9 by decide⟩
    · split
      · exact h1
      · unfold appS.putS
        rw [if_neg (not_dead h1.1)]
        exact ⟨h1.1, show (0 : Int) ≠ 9 by decide⟩
theorem chk_set {s : St} {gn : Int} {S : ByteArray} (h : s.set = false) : (chkS s gn S).1.set = false ∧ (chkS s gn S).2.2 ≠ 9 := by
  rw [chk_free h]
  exact ⟨h, show (0 : Int) ≠ 9 by decide⟩
theorem act_set {t : Tab} {s : St} {ls ep gn : Int} {o : LOp} (h : s.set = false) : (actS t s ls ep gn o).1.set = false ∧ (actS t s ls ep gn o).2.2.2.2.2.2 ≠ 9 := by
  unfold actS
  split
  · exact seal_set h
  · split
    · simp only
      unfold dropS
      split
      · exact ⟨h, show (1 : Int) ≠ 9 by decide⟩
      · exact chk_set h
    · split
      · exact chk_set h
      · exact app_set0 h
theorem seal_size {t : Tab} {s : St} {ls : Int} {S : ByteArray} : (sealS t s ls S).1.size = s.size := by
  unfold sealS
  split
  · rfl
  · split <;> rfl
theorem chk_size {s : St} {gn : Int} {S : ByteArray} : (chkS s gn S).1.size = s.size := by
  unfold chkS
  split
  · rfl
  · split
    · rfl
    · split <;> rfl
theorem app_size {t : Tab} {s : St} {ls ep K V D : Int} {I X : ByteArray} : (appS t s ls ep K V D I X).1.size = s.size := by
  have h1 : (sealIf t s ls ep).1.size = s.size := by
    unfold sealIf
    split
    · exact seal_size
    · rfl
  unfold appS
  split
  · rfl
  · split
    · rfl
    · split
      · exact h1
      · unfold appS.putS
        split
        · exact h1
        · exact h1
theorem act_size {t : Tab} {s : St} {ls ep gn : Int} {o : LOp} : (actS t s ls ep gn o).1.size = s.size := by
  unfold actS
  split
  · exact seal_size
  · split
    · simp only
      unfold dropS
      split
      · rfl
      · exact chk_size
    · split
      · exact chk_size
      · exact app_size
theorem act_fix {W w : World} {items : List Dk.Item} {k j d g : Nat} {s : St} {t : Tab} {ls gn : Int} {c : Nat} (h : Dk.Sep W w items) (hk : items[k]? = some (Dk.diskI d s)) (hj : items[j]? = some (PLog g d t ls 1 gn)) (hkj : k ≠ j) (hP : LogP c t s ls gn) (hc : c ≤ 1000) (hs : s.set = false) (o : LOp) (ho : o.Ok) :
    Calls Tryz.prog 44 #[.pointer (some ⟨g, 0, none⟩), .agg #[.int .i64 o.k, .int .u64 o.l, .int .u32 o.e, .int .i64 o.rk, .int .u64 o.v, .int .u64 o.d, .string o.i, .string o.a, .int .i64 o.n, .int .u64 o.u]] w fun e w' =>
      e = .returned (.tuple #[.agg #[.int .i64 (actS t s ls 1 gn o).2.2.2.2.1, .int .i64 (actS t s ls 1 gn o).2.2.2.2.2.1], .int .i64 (actS t s ls 1 gn o).2.2.2.2.2.2]) ∧
      Dk.Sep W w' ((items.set k (Dk.diskI d (actS t s ls 1 gn o).1)).set j (PLog g d (actS t s ls 1 gn o).2.1 (actS t s ls 1 gn o).2.2.1 1 (actS t s ls 1 gn o).2.2.2.1)) := by
  refine (act_any prg h hk hj hkj hP ⟨by decide, by decide⟩ hc o ho).mono ?_
  rintro e w' ⟨he, it, h2, h3⟩
  rw [h3 (act_set hs).2] at h2
  exact ⟨he, h2⟩
theorem copy_s {W w : World} {items : List Dk.Item} (h : Dk.Sep W w items) {k d : Nat} {s : St} (hk : items[k]? = some (Dk.diskI d s)) (hpl : s.pend.length < 1048576) :
    Calls Tryz.prog 45 #[.pointer (some ⟨d, 0, none⟩)] w fun e w' => ∃ c, e = .returned (.pointer (some ⟨c, 0, none⟩)) ∧ Dk.Sep W w' (items ++ [Dk.diskI c s]) := by
  obtain ⟨G, D, _⟩ := h.at_ k hk
  exact (Dk.copy_any D hpl).mono fun e w' ⟨c, F', he, hD, hn, hb⟩ => ⟨c, he, h.new (Dk.diskI c s) hD hn hb⟩
theorem at_fix {W w : World} {items : List Dk.Item} (h : Dk.Sep W w items) {t : Tab} {A : Option Addr} {m p : Nat} {B : Option Addr} {k q : Nat} {C : Option Addr} {n r : Nat} (ht : TIn w A m B k C n t.o t.l t.f) (hok : okP t) (d : Nat) (ls gn : Int) :
    Calls Tryz.prog 46 #[.pointer (some ⟨d, 0, none⟩), .agg #[.int .i64 t.sg, .int .i64 t.st, .slice A m p, .slice B k q, .slice C n r], .int .u64 ls, .int .u32 1, .int .u64 gn] w fun e w' => ∃ g, e = .returned (.pointer (some ⟨g, 0, none⟩)) ∧ Dk.Sep W w' (items ++ [PLog g d t ls 1 gn]) := by
  refine (at_any ht hok d ls 1 gn).mono ?_
  rintro e w' ⟨g, A1, m1, p1, B1, k1, q1, C1, n1, r1, W1, rfl, hB, hg, ht1, hf, hn, hb⟩
  exact ⟨g, rfl, log_new h hb hB hg ht1 hok hf hn⟩
theorem lsn_at {W w : World} {items : List Dk.Item} {j g d : Nat} {t : Tab} {ls gn : Int} (h : Dk.Sep W w items) (hj : items[j]? = some (PLog g d t ls 1 gn)) :
    Calls Tryz.prog 32 #[.pointer (some ⟨g, 0, none⟩)] w fun e w' => e = .returned (.int .u64 ls) ∧ Dk.Sep W w' items := (prg.lsn h hj).mono fun e w' ⟨he, hb⟩ => ⟨he, h.later hb⟩
theorem gen_at {W w : World} {items : List Dk.Item} {j g d : Nat} {t : Tab} {ls gn : Int} (h : Dk.Sep W w items) (hj : items[j]? = some (PLog g d t ls 1 gn)) :
    Calls Tryz.prog 48 #[.pointer (some ⟨g, 0, none⟩)] w fun e w' => e = .returned (.int .u64 gn) ∧ Dk.Sep W w' items := (prg.gen h hj).mono fun e w' ⟨he, hb⟩ => ⟨he, h.later hb⟩
theorem epoch_at {W w : World} {items : List Dk.Item} {j g d : Nat} {t : Tab} {ls gn : Int} (h : Dk.Sep W w items) (hj : items[j]? = some (PLog g d t ls 1 gn)) :
    Calls Tryz.prog 47 #[.pointer (some ⟨g, 0, none⟩)] w fun e w' => e = .returned (.int .u32 1) ∧ Dk.Sep W w' items := (prg.epoch h hj).mono fun e w' ⟨he, hb⟩ => ⟨he, h.later hb⟩
theorem tab_at {W w : World} {items : List Dk.Item} {j g d : Nat} {t : Tab} {ls gn : Int} (h : Dk.Sep W w items) (hj : items[j]? = some (PLog g d t ls 1 gn)) :
    Calls Tryz.prog 24 #[.pointer (some ⟨g, 0, none⟩)] w fun e w' => ∃ A m p B k q C n r, e = .returned (.agg #[.int .i64 t.sg, .int .i64 t.st, .slice A m p, .slice B k q, .slice C n r]) ∧ TIn w' A m B k C n t.o t.l t.f ∧ Below w.heap.size w w' ∧ Dk.Sep W w' items :=
  (prg.tab h hj).mono fun e w' ⟨A, m, p, B, k, q, C, n, r, W1, he, ht, _, hb⟩ => ⟨A, m, p, B, k, q, C, n, r, he, ht, hb, h.later hb⟩
theorem dread_at {W w : World} {items : List Dk.Item} {k d : Nat} {s : St} (h : Dk.Sep W w items) (hk : items[k]? = some (Dk.diskI d s)) (i : Int) (hi : s.has i) :
    Calls Tryz.prog 36 #[.pointer (some ⟨d, 0, none⟩), .int .i64 i] w fun e w' => e = .returned (.tuple #[.string (s.cur i), .int .i64 0]) ∧ Dk.Sep W w' items :=
  Dk.read_s h k hk i hi _ rfl
theorem same_tab {w : World} {t : Tab} {A0 : Option Addr} {m0 p0 : Nat} {B0 : Option Addr} {k0 q0 : Nat} {C0 : Option Addr} {n0 r0 : Nat} {A1 : Option Addr} {m1 p1 : Nat} {B1 : Option Addr} {k1 q1 : Nat} {C1 : Option Addr} {n1 r1 : Nat} (h0 : TIn w A0 m0 B0 k0 C0 n0 t.o t.l t.f) (h1 : TIn w A1 m1 B1 k1 C1 n1 t.o t.l t.f) (hok : okP t) :
    Calls Tryz.prog 49 #[.agg #[.int .i64 t.sg, .int .i64 t.st, .slice A0 m0 p0, .slice B0 k0 q0, .slice C0 n0 r0], .agg #[.int .i64 t.sg, .int .i64 t.st, .slice A1 m1 p1, .slice B1 k1 q1, .slice C1 n1 r1]] w fun e' w' => e' = .returned (.bool true) ∧ Below w.heap.size w w' := by
  have h2 := Tb.ok_full hok h0
  have b := Tb.ok_bd hok
  have l1 := h0.a.len
  have l2 := h0.b.len
  have l3 := h0.c.len
  have e1 := hok.2.2.2.2.2.2.1
  have e2 := hok.2.2.2.2.2.2.2
  exact Tb.same_yes t.sg t.st A0 m0 p0 B0 k0 q0 C0 n0 r0 A1 m1 p1 B1 k1 q1 C1 n1 r1 t.o t.l t.f w h0 h1 (by unfold maxLen; omega) (by unfold maxLen; omega) (by unfold maxLen; omega)
end Go.Proofs.YtdpmjlbkojhooaaGreat.Lg
