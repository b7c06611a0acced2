/- What the program's wheel must do; the calls whose answers the document fixes. -/
import Derived.Test.YtogfpakopckfoaaWhE
namespace Go.Proofs.Ytogfpakopckfoaa.Wl
open Go.RowKit Go.Lib
open Sp
set_option linter.unusedVariables false
set_option maxRecDepth 100000

/-- A wheel as the statements' calls leave one. -/
structure Good (s : Wh) : Prop where
  ok : Ok s.l
  t : 0 ≤ s.t ∧ s.t < 18446744073709551616
  d : ∀ a ∈ s.l, 0 ≤ a.d ∧ a.d < 18446744073709551616
  i : ∀ a ∈ s.l, a.i.size ≤ 1000
  n : s.l.length ≤ 200
theorem Good.new {t : Int} (h : 0 ≤ t ∧ t < 18446744073709551616) : Good ⟨t, []⟩ := ⟨Ok.nil, h, (fun a ha => by cases ha), (fun a ha => by cases ha), by simp⟩
theorem Good.set {s : Wh} (h : Good s) {i : ByteArray} {d : Int} (hd : 0 ≤ d ∧ d < 18446744073709551616) (hi : i.size ≤ 1000) (hn : s.l.length < 200) : Good (setW s i d) := by
  refine ⟨h.ok.setW i d, h.t, fun a ha => ?_, fun a ha => ?_, ?_⟩
  · rcases mem_ins.1 ha with rfl | ha
    · exact hd
    · exact h.d a (mem_rem.1 ha).1
  · rcases mem_ins.1 ha with rfl | ha
    · exact hi
    · exact h.i a (mem_rem.1 ha).1
  · show (ins _ _).length ≤ 200
    rw [ins_len]
    have : (rem s.l i.toList).length ≤ s.l.length := List.length_filter_le _ _
    omega
theorem Good.can {s : Wh} (h : Good s) (i : ByteArray) : Good (canW s i) :=
  ⟨h.ok.canW i, h.t, fun a ha => h.d a (mem_rem.1 ha).1, fun a ha => h.i a (mem_rem.1 ha).1, Nat.le_trans (List.length_filter_le _ _) h.n⟩
theorem Good.adv {s : Wh} (h : Good s) {n : Int} (hn : 0 ≤ n ∧ n < 18446744073709551616) : Good (advW s n) :=
  ⟨h.ok.advW n, by have := h.t; simp only [advW]; omega, fun a ha => h.d a (rest_mem.1 ha).1, fun a ha => h.i a (rest_mem.1 ha).1, Nat.le_trans (List.length_filter_le _ _) h.n⟩
/-- Timers that are handed out. -/
def trI (A : Option Addr) (n : Nat) (L : List Tm) : Sp.Item :=
  ⟨fun w G => TR w A n L ∧ (∀ a, A = some a → 0 < n → G a.block) ∧ ∀ b, G b → b < w.heap.size,
   fun ⟨hR, hA, hl⟩ hs hz => ⟨hR.same (fun a e h0 => hs _ (hA a e h0)), hA, fun b h => Nat.lt_of_lt_of_le (hl b h) hz⟩,
   fun ⟨_, _, hl⟩ b h => hl b h⟩
theorem tr_at {W w : World} {items : List Sp.Item} {k : Nat} {A : Option Addr} {n : Nat} {L : List Tm} (h : Sp.Sep W w items) (hk : items[k]? = some (trI A n L)) : TR w A n L := by
  obtain ⟨G, ⟨hR, _⟩, _⟩ := h.at_ k hk
  exact hR
theorem tr_new {W w w' : World} {items : List Sp.Item} {A : Option Addr} {n : Nat} {L : List Tm} (h : Sp.Sep W w items) (hr : TR w' A n L) (hf : ∀ a, A = some a → w.heap.size ≤ a.block) (hb : Below w.heap.size w w') : Sp.Sep W w' (items ++ [trI A n L]) :=
  h.new _ (G := fun b => 0 < n ∧ ∃ a, A = some a ∧ a.block = b) ⟨hr, fun a e h0 => ⟨h0, a, e, rfl⟩, fun b ⟨h0, a, e, hb⟩ => by
    obtain ⟨g, o, e', hc⟩ := hr.c h0
    rw [e] at e'
    injection e' with e'
    obtain ⟨t, ht⟩ : ∃ t, L[0]? = some t := ⟨_, List.getElem?_eq_getElem (by rw [← hr.len]; exact h0)⟩
    have := World.block_lt_of_cell? _ _ (hc 0 t ht).1
    rw [← hb, e']
    exact this⟩ (fun b ⟨_, a, e, hb⟩ => by rw [← hb]; exact hf a e) hb
/-- The program's functions, over its own wheel in memory (WI). -/
structure Prg (WI : Nat → Wh → Sp.Item) : Prop where
  pl : ∀ (a b : Nat) (w : World), a < 18446744073709551616 → b < 18446744073709551616 → Calls Try.prog 13 #[.int .u64 (a : Int), .int .u64 (b : Int)] w fun e w' => e = .returned (.tuple #[.int .i64 ((place a b).1 : Nat), .int .i64 ((place a b).2 : Nat)]) ∧ Below w.heap.size w w'
  nw : ∀ {W w : World} {items : List Sp.Item} (t : Int), Sp.Sep W w items → (0 ≤ t ∧ t < 18446744073709551616) → Calls Try.prog 10 #[.int .u64 t] w fun e w' => ∃ g, e = .returned (.pointer (some ⟨g, 0, none⟩)) ∧ Sp.Sep W w' (items ++ [WI g ⟨t, []⟩])
  no : ∀ {W w : World} {items : List Sp.Item} {k g : Nat} {s : Wh}, Sp.Sep W w items → items[k]? = some (WI g s) → Good s → Calls Try.prog 18 #[.pointer (some ⟨g, 0, none⟩)] w fun e w' => e = .returned (.int .u64 s.t) ∧ Below w.heap.size w w'
  ln : ∀ {W w : World} {items : List Sp.Item} {k g : Nat} {s : Wh}, Sp.Sep W w items → items[k]? = some (WI g s) → Good s → Calls Try.prog 20 #[.pointer (some ⟨g, 0, none⟩)] w fun e w' => e = .returned (.int .i64 (s.l.length : Nat)) ∧ Below w.heap.size w w'
  st : ∀ {W w : World} {items : List Sp.Item} {k g : Nat} {s : Wh} (i : ByteArray) (d : Int), Sp.Sep W w items → items[k]? = some (WI g s) → Good s → s.l.length < 200 → (0 ≤ d ∧ d < 18446744073709551616) → i.size ≤ 1000 → Calls Try.prog 15 #[.pointer (some ⟨g, 0, none⟩), .string i, .int .u64 d] w fun e w' => e = .returned (.bool (find s.l i.toList).isSome) ∧ Sp.Sep W w' (items.set k (WI g (setW s i d)))
  cn : ∀ {W w : World} {items : List Sp.Item} {k g : Nat} {s : Wh} (i : ByteArray), Sp.Sep W w items → items[k]? = some (WI g s) → Good s → i.size ≤ 1000 → Calls Try.prog 22 #[.pointer (some ⟨g, 0, none⟩), .string i] w fun e w' => e = .returned (.bool (find s.l i.toList).isSome) ∧ Sp.Sep W w' (items.set k (WI g (canW s i)))
  fd : ∀ {W w : World} {items : List Sp.Item} {k g : Nat} {s : Wh} (i : ByteArray), Sp.Sep W w items → items[k]? = some (WI g s) → Good s → i.size ≤ 1000 → Calls Try.prog 26 #[.pointer (some ⟨g, 0, none⟩), .string i] w fun e w' => e = .returned (.tuple #[.int .u64 (match find s.l i.toList with | some t => t.d | none => 0), .bool (find s.l i.toList).isSome]) ∧ Below w.heap.size w w'
  ad : ∀ {W w : World} {items : List Sp.Item} {k g : Nat} {s : Wh} (n : Int), Sp.Sep W w items → items[k]? = some (WI g s) → Good s → (0 ≤ n ∧ n < 18446744073709551616) → Calls Try.prog 17 #[.pointer (some ⟨g, 0, none⟩), .int .u64 n] w fun e w' => ∃ A p, e = .returned (.slice A (dueL s.l (max s.t n)).length p) ∧ Sp.Sep W w' (items.set k (WI g (advW s n)) ++ [trI A (dueL s.l (max s.t n)).length (dueL s.l (max s.t n))])
  lv : ∀ {W w : World} {items : List Sp.Item} {k g : Nat} {s : Wh}, Sp.Sep W w items → items[k]? = some (WI g s) → Good s → Calls Try.prog 21 #[.pointer (some ⟨g, 0, none⟩)] w fun e w' => e = .returned (.agg (csI (cnI s.t s.l))) ∧ Below w.heap.size w w'
/-- A literal row of timers. -/
theorem TR.lit (w : World) (T : TypeId) (L : List Tm) (cs : Array Value) (h : cs = (L.flatMap tmC).toArray) : TR (w.alloc (.cells cs T)) (some ⟨w.heap.size, 0, none⟩) L.length L :=
  ⟨rfl, fun _ => ⟨w.heap.size, 0, rfl, fun i t hi => by
    have a0 : (L.flatMap tmC)[i * 2]? = some (.string t.i) := flat_get tmC 2 tmC_len L i t 0 hi (by decide)
    have a1 : (L.flatMap tmC)[i * 2 + 1]? = some (.int .u64 t.d) := flat_get tmC 2 tmC_len L i t 1 hi (by decide)
    have hb := Sp.Blk.new w T cs
    rw [Nat.zero_add, hb.cell, hb.cell, h]
    exact ⟨by simpa using a0, by simpa using a1⟩⟩⟩

/-! ### The fixed calls -/
abbrev cA : ByteArray := ⟨#[97]⟩
abbrev cB : ByteArray := ⟨#[98]⟩
abbrev cC : ByteArray := ⟨#[99]⟩
abbrev cD : ByteArray := ⟨#[100]⟩
abbrev cZ : ByteArray := ⟨#[122]⟩
theorem mx1 : max (10 : Int) 3 = 10 := by decide
theorem mx2 : max (10 : Int) 12 = 12 := by decide
theorem fx1 : setW ⟨10, []⟩ cA 30 = ⟨10, [⟨cA, 30⟩]⟩ := rfl
theorem fx2 : setW ⟨10, [⟨cA, 30⟩]⟩ cB 12 = ⟨10, [⟨cB, 12⟩, ⟨cA, 30⟩]⟩ := by simp only [setW, ins, rem, ahd, Tm.key, Lib.toList_data]; rfl
theorem fx3 : setW ⟨10, [⟨cB, 12⟩, ⟨cA, 30⟩]⟩ cA 12 = ⟨10, [⟨cA, 12⟩, ⟨cB, 12⟩]⟩ := by simp only [setW, ins, rem, ahd, Tm.key, Lib.toList_data]; rfl
theorem fx4 : setW ⟨10, [⟨cA, 12⟩, ⟨cB, 12⟩]⟩ cC 100000 = ⟨10, [⟨cA, 12⟩, ⟨cB, 12⟩, ⟨cC, 100000⟩]⟩ := by simp only [setW, ins, rem, ahd, Tm.key, Lib.toList_data]; rfl
theorem fx5 : setW ⟨10, [⟨cA, 12⟩, ⟨cB, 12⟩, ⟨cC, 100000⟩]⟩ cD 5 = ⟨10, [⟨cD, 5⟩, ⟨cA, 12⟩, ⟨cB, 12⟩, ⟨cC, 100000⟩]⟩ := by simp only [setW, ins, rem, ahd, Tm.key, Lib.toList_data]; rfl
theorem fx6 : canW ⟨10, [⟨cD, 5⟩, ⟨cA, 12⟩, ⟨cB, 12⟩, ⟨cC, 100000⟩]⟩ cZ = ⟨10, [⟨cD, 5⟩, ⟨cA, 12⟩, ⟨cB, 12⟩, ⟨cC, 100000⟩]⟩ := by simp only [canW, rem, Tm.key, Lib.toList_data]; rfl
theorem fx7 : advW ⟨10, [⟨cD, 5⟩, ⟨cA, 12⟩, ⟨cB, 12⟩, ⟨cC, 100000⟩]⟩ 3 = ⟨10, [⟨cA, 12⟩, ⟨cB, 12⟩, ⟨cC, 100000⟩]⟩ ∧ dueL [⟨cD, 5⟩, ⟨cA, 12⟩, ⟨cB, 12⟩, ⟨cC, 100000⟩] (max 10 3) = [⟨cD, 5⟩] := by exact ⟨rfl, rfl⟩
theorem fx8 : advW ⟨10, [⟨cA, 12⟩, ⟨cB, 12⟩, ⟨cC, 100000⟩]⟩ 12 = ⟨12, [⟨cC, 100000⟩]⟩ ∧ dueL [⟨cA, 12⟩, ⟨cB, 12⟩, ⟨cC, 100000⟩] (max 10 12) = [⟨cA, 12⟩, ⟨cB, 12⟩] := by exact ⟨rfl, rfl⟩
theorem fx9 : canW ⟨12, [⟨cC, 100000⟩]⟩ cC = ⟨12, []⟩ := by simp only [canW, rem, Tm.key, Lib.toList_data]; rfl
theorem fxl : cnI 10 [⟨cD, 5⟩, ⟨cA, 12⟩, ⟨cB, 12⟩, ⟨cC, 100000⟩] = fun k => if k = 0 then 3 else if k = 4 then 1 else 0 := by
  funext k
  have h1 : lvl 10 5 = 0 := by decide
  have h2 : lvl 10 12 = 0 := by decide
  have h3 : lvl 10 100000 = 4 := by decide
  unfold cnI cnt
  simp only [List.countP_cons, List.countP_nil, h1, h2, h3]
  by_cases e : k = 0
  · subst e; rfl
  · by_cases e4 : k = 4
    · subst e4; rfl
    · have a : ¬ 0 = k := fun h => e h.symm
      have b : ¬ 4 = k := fun h => e4 h.symm
      simp [e, e4, a, b]
theorem eql5 (c : Nat → Int) (w : World) : (binOp BinOp.eql 48 (.agg (csI c)) (.agg (csI c))).run Try.prog w = .ok (.bool true) w := by
  have u3 := Try.underlying3
  have a3' := Try.isAgg3
  have z3 := Try.sizeOf3
  simp [csI, go_sem]
  rw [show (10000 : Nat) = 9999 + 1 from rfl, Op.equalIn]
  simp only [Sem.run_bind, run_underlying Try.underlying48, Result.andThen_ok]
  simp only [Std.Legacy.Range.forIn_eq_forIn_range', Std.Legacy.Range.size, Nat.sub_zero, Nat.add_sub_cancel, Nat.div_one, List.range'_succ, List.range'_zero, List.forIn_cons, List.forIn_nil]
  go_simp
theorem ff1 : (find [] cA.toList).isSome = false := rfl
theorem ff2 : (find [⟨cA, 30⟩] cB.toList).isSome = false := by simp only [find, Tm.key, Lib.toList_data]; rfl
theorem ff3 : (find [⟨cB, 12⟩, ⟨cA, 30⟩] cA.toList).isSome = true := by simp only [find, Tm.key, Lib.toList_data]; rfl
theorem ff4 : find [⟨cA, 12⟩, ⟨cB, 12⟩] cA.toList = some ⟨cA, 12⟩ := by simp only [find, Tm.key, Lib.toList_data]; rfl
theorem ff5 : find [⟨cA, 12⟩, ⟨cB, 12⟩] cC.toList = none := by simp only [find, Tm.key, Lib.toList_data]; rfl
theorem ff6 : (find [⟨cA, 12⟩, ⟨cB, 12⟩, ⟨cC, 100000⟩] cD.toList).isSome = false := by simp only [find, Tm.key, Lib.toList_data]; rfl
theorem ff7 : (find [⟨cD, 5⟩, ⟨cA, 12⟩, ⟨cB, 12⟩, ⟨cC, 100000⟩] cZ.toList).isSome = false := by simp only [find, Tm.key, Lib.toList_data]; rfl
theorem ff8 : (find [⟨cC, 100000⟩] cC.toList).isSome = true := by simp only [find, Tm.key, Lib.toList_data]; rfl
theorem pl1 : place 0 5 = (0, 5) := by decide
theorem pl2 : place 0 16 = (1, 1) := by decide
theorem pl3 : place 15 16 = (1, 1) := by decide
theorem pl4 : place 0 65536 = (4, 0) := by decide
theorem pl5 : place 20 20 = (0, 4) := by decide
set_option maxHeartbeats 32000000 in
theorem fixed_any {WI : Nat → Wh → Sp.Item} (P : Prg WI) (w : World) : Calls Try.prog 12 #[] w fun e w' => e = .returned (.bool true) ∧ Below w.heap.size w w' := by
  have HP := Lib.hid P
  have G0 := Lib.hid (Good.new (t := 10) (by decide))
  have G1 := Lib.hid (show Good ⟨10, [⟨cA, 30⟩]⟩ by rw [← fx1]; exact G0.out.set (by decide) (by decide) (by decide))
  have G2 := Lib.hid (show Good ⟨10, [⟨cB, 12⟩, ⟨cA, 30⟩]⟩ by rw [← fx2]; exact G1.out.set (by decide) (by decide) (by decide))
  have G3 := Lib.hid (show Good ⟨10, [⟨cA, 12⟩, ⟨cB, 12⟩]⟩ by rw [← fx3]; exact G2.out.set (by decide) (by decide) (by decide))
  have G4 := Lib.hid (show Good ⟨10, [⟨cA, 12⟩, ⟨cB, 12⟩, ⟨cC, 100000⟩]⟩ by rw [← fx4]; exact G3.out.set (by decide) (by decide) (by decide))
  have G5 := Lib.hid (show Good ⟨10, [⟨cD, 5⟩, ⟨cA, 12⟩, ⟨cB, 12⟩, ⟨cC, 100000⟩]⟩ by rw [← fx5]; exact G4.out.set (by decide) (by decide) (by decide))
  have G7 := Lib.hid (show Good ⟨10, [⟨cA, 12⟩, ⟨cB, 12⟩, ⟨cC, 100000⟩]⟩ by rw [← fx7.1]; exact G5.out.adv (by decide))
  have G8 := Lib.hid (show Good ⟨12, [⟨cC, 100000⟩]⟩ by rw [← fx8.1]; exact G7.out.adv (by decide))
  have G9 := Lib.hid (show Good ⟨12, []⟩ by rw [← fx9]; exact G8.out.can _)
  have Q1 : Hid (∀ W, Calls Try.prog 13 #[.int .u64 0, .int .u64 5] W fun e w' => e = .returned (.tuple #[.int .i64 0, .int .i64 5]) ∧ Below W.heap.size W w') := Lib.hid (fun W => by have := HP.out.pl 0 5 W (by decide) (by decide); rw [pl1] at this; exact this)
  have Q2 : Hid (∀ W, Calls Try.prog 13 #[.int .u64 0, .int .u64 16] W fun e w' => e = .returned (.tuple #[.int .i64 1, .int .i64 1]) ∧ Below W.heap.size W w') := Lib.hid (fun W => by have := HP.out.pl 0 16 W (by decide) (by decide); rw [pl2] at this; exact this)
  have Q3 : Hid (∀ W, Calls Try.prog 13 #[.int .u64 15, .int .u64 16] W fun e w' => e = .returned (.tuple #[.int .i64 1, .int .i64 1]) ∧ Below W.heap.size W w') := Lib.hid (fun W => by have := HP.out.pl 15 16 W (by decide) (by decide); rw [pl3] at this; exact this)
  have Q4 : Hid (∀ W, Calls Try.prog 13 #[.int .u64 0, .int .u64 65536] W fun e w' => e = .returned (.tuple #[.int .i64 4, .int .i64 0]) ∧ Below W.heap.size W w') := Lib.hid (fun W => by have := HP.out.pl 0 65536 W (by decide) (by decide); rw [pl4] at this; exact this)
  have Q5 : Hid (∀ W, Calls Try.prog 13 #[.int .u64 20, .int .u64 20] W fun e w' => e = .returned (.tuple #[.int .i64 0, .int .i64 4]) ∧ Below W.heap.size W w') := Lib.hid (fun W => by have := HP.out.pl 20 20 W (by decide) (by decide); rw [pl5] at this; exact this)
  clear P
  go_enter Try.func12, Try.ntmps12
  have HB0 := Lib.hid (Below.refl w.heap.size w)
  go_wp2_with fail
  refine (Q1.out _).mono ?_
  rintro e' w1 ⟨rfl, hb1⟩
  have HB1 := Lib.hid (HB0.out.trans (hb1.mono HB0.out.size))
  clear hb1
  go_wp2_with fail
  refine (Q2.out _).mono ?_
  rintro e' w2 ⟨rfl, hb2⟩
  have HB2 := Lib.hid (HB1.out.trans (hb2.mono HB1.out.size))
  clear hb2
  go_wp2_with fail
  refine (Q3.out _).mono ?_
  rintro e' w3 ⟨rfl, hb3⟩
  have HB3 := Lib.hid (HB2.out.trans (hb3.mono HB2.out.size))
  clear hb3
  go_wp2_with fail
  refine (Q4.out _).mono ?_
  rintro e' w4 ⟨rfl, hb4⟩
  have HB4 := Lib.hid (HB3.out.trans (hb4.mono HB3.out.size))
  clear hb4
  go_wp2_with fail
  refine (Q5.out _).mono ?_
  rintro e' w5 ⟨rfl, hb5⟩
  have HB5 := Lib.hid (HB4.out.trans (hb5.mono HB4.out.size))
  clear hb5
  clear Q1 Q2 Q3 Q4 Q5
  go_wp2_with fail
  refine (HP.out.nw 10 (Sp.Sep.nil HB5.out) (by decide)).mono ?_
  rintro e' w6 ⟨g, rfl, s6⟩
  have S6 := Lib.hid s6
  simp only [List.nil_append] at S6
  clear s6 HB0 HB1 HB2 HB3 HB4 HB5
  go_wp2_with fail
  refine (HP.out.st cA 30 S6.out (k := 0) rfl G0.out (by decide) (by decide) (by decide)).mono ?_
  rintro e' w7 ⟨he, s7⟩
  rw [ff1] at he
  subst he
  rw [fx1] at s7
  have S7 := Lib.hid s7
  simp only [List.set_cons_zero] at S7
  clear s7 S6
  go_wp2_with fail
  refine (HP.out.st cB 12 S7.out (k := 0) rfl G1.out (by decide) (by decide) (by decide)).mono ?_
  rintro e' w8 ⟨he, s8⟩
  rw [ff2] at he
  subst he
  rw [fx2] at s8
  have S8 := Lib.hid s8
  simp only [List.set_cons_zero] at S8
  clear s8 S7
  go_wp2_with fail
  refine (HP.out.st cA 12 S8.out (k := 0) rfl G2.out (by decide) (by decide) (by decide)).mono ?_
  rintro e' w9 ⟨he, s9⟩
  rw [ff3] at he
  subst he
  rw [fx3] at s9
  have S9 := Lib.hid s9
  simp only [List.set_cons_zero] at S9
  clear s9 S8
  go_wp2_with fail
  refine (HP.out.fd cA S9.out (k := 0) rfl G3.out (by decide)).mono ?_
  rintro e' w10 ⟨he, hb10⟩
  rw [ff4] at he
  subst he
  have S10 := Lib.hid (S9.out.later hb10)
  clear hb10 S9
  go_wp2_with fail
  refine (HP.out.fd cC S10.out (k := 0) rfl G3.out (by decide)).mono ?_
  rintro e' w11 ⟨he, hb11⟩
  rw [ff5] at he
  subst he
  have S11 := Lib.hid (S10.out.later hb11)
  clear hb11 S10
  go_wp2_with fail
  refine (HP.out.st cC 100000 S11.out (k := 0) rfl G3.out (by decide) (by decide) (by decide)).mono ?_
  rintro e' w12 ⟨he, s12⟩
  rw [(show (find [⟨cA, 12⟩, ⟨cB, 12⟩] cC.toList).isSome = false by rw [ff5]; rfl)] at he
  subst he
  rw [fx4] at s12
  have S12 := Lib.hid s12
  simp only [List.set_cons_zero] at S12
  clear s12 S11
  go_wp2_with fail
  refine (HP.out.st cD 5 S12.out (k := 0) rfl G4.out (by decide) (by decide) (by decide)).mono ?_
  rintro e' w13 ⟨he, s13⟩
  rw [ff6] at he
  subst he
  rw [fx5] at s13
  have S13 := Lib.hid s13
  simp only [List.set_cons_zero] at S13
  clear s13 S12
  go_wp2_with fail
  refine (HP.out.lv S13.out (k := 0) rfl G5.out).mono ?_
  rintro e' w14 ⟨he, hb14⟩
  rw [fxl] at he
  replace he : e' = .returned (.agg #[.int .i64 3, .int .i64 0, .int .i64 0, .int .i64 0, .int .i64 1]) := he
  subst he
  have S14 := Lib.hid (loc_alloc (S13.out.later hb14) 48 #[.int .i64 3, .int .i64 0, .int .i64 0, .int .i64 0, .int .i64 1])
  clear hb14 S13
  go_upto_region 15 with fail
  change Code.wp _ _ _ _ (w14.alloc (.cells #[.int .i64 3, .int .i64 0, .int .i64 0, .int .i64 0, .int .i64 1] 48))
  generalize w14.alloc (.cells #[.int .i64 3, .int .i64 0, .int .i64 0, .int .i64 0, .int .i64 1] 48) = w15 at *
  obtain ⟨b5, eb5⟩ : ∃ z, w14.heap.size = z := ⟨_, rfl⟩
  rw [eb5] at S14 ⊢
  clear eb5
  go_wp2_with fail
  refine (HP.out.cn cZ S14.out (k := 0) rfl G5.out (by decide)).mono ?_
  rintro e' w16 ⟨he, s16⟩
  rw [ff7] at he
  subst he
  rw [fx6] at s16
  have S16 := Lib.hid s16
  clear s16 S14
  go_wp2_with fail
  refine (HP.out.ad 3 S16.out (k := 0) rfl G5.out (by decide)).mono ?_
  rintro e' w17 ⟨A17, p17, rfl, s17⟩
  rw [fx7.1, fx7.2] at s17
  have S17 := Lib.hid s17
  simp only [fx7.2]
  clear s17 S16
  go_wp2_with fail
  refine (HP.out.ad 12 S17.out (k := 0) rfl G7.out (by decide)).mono ?_
  rintro e' w18 ⟨A18, p18, rfl, s18⟩
  rw [fx8.1, fx8.2] at s18
  have S18 := Lib.hid s18
  simp only [fx8.2]
  clear s18 S17
  go_wp2_with fail
  refine (HP.out.cn cC S18.out (k := 0) rfl G8.out (by decide)).mono ?_
  rintro e' w19 ⟨he, s19⟩
  rw [ff8] at he
  subst he
  rw [fx9] at s19
  have S19 := Lib.hid s19
  clear s19 S18
  have bk := loc_blk S19.out (k := 1) rfl
  have x0 : w19.cell? ⟨b5, 0, none⟩ = some (.int .i64 3) := bk.cell 0
  have x1 : w19.cell? ⟨b5, 1, none⟩ = some (.int .i64 0) := bk.cell 1
  have x2 : w19.cell? ⟨b5, 2, none⟩ = some (.int .i64 0) := bk.cell 2
  have x3 : w19.cell? ⟨b5, 3, none⟩ = some (.int .i64 0) := bk.cell 3
  have x4 : w19.cell? ⟨b5, 4, none⟩ = some (.int .i64 1) := bk.cell 4
  have hq5 : ∀ W, (binOp BinOp.eql 48 (.agg #[.int .i64 3, .int .i64 0, .int .i64 0, .int .i64 0, .int .i64 1]) (.agg #[.int .i64 3, .int .i64 0, .int .i64 0, .int .i64 0, .int .i64 1])).run Try.prog W = .ok (.bool true) W := fun W => eql5 (fun k => if k = 0 then 3 else if k = 4 then 1 else 0) W
  clear bk
  go_upto_region 19 with fail
  dsimp only [List.append]
  go_wp2_with fail
  refine (timers_any (tr_at S19.out (k := 2) rfl) (by decide)).mono ?_
  rintro e' w20 ⟨A20, p20, rfl, r20, hb20⟩
  have S20 := Lib.hid (S19.out.later hb20)
  have Z := TR.lit w20 57 [⟨cD, 5⟩] #[.string ⟨#[100]⟩, .int .u64 5] rfl
  have hbz := below1 w20 (.cells #[.string ⟨#[100]⟩, .int .u64 5] 57)
  have S21 := Lib.hid (S20.out.later hbz)
  have HQ := Lib.hid (fun p q => same_yes (p := p) (q := q) (r20.later hbz) Z (by decide))
  clear S19 S20 r20 hb20 Z hbz x0 x1 x2 x3 x4 hq5
  go_wp2_with fail
  refine (HQ.out _ _).mono ?_
  rintro e' w21 ⟨rfl, hb21⟩
  have S22 := Lib.hid (S21.out.later hb21)
  clear hb21 HQ S21
  go_wp2_with fail
  refine (timers_any (tr_at S22.out (k := 3) rfl) (by decide)).mono ?_
  rintro e' w22 ⟨A22, p22, rfl, r22, hb22⟩
  have S23 := Lib.hid (S22.out.later hb22)
  have Z := TR.lit w22 57 [⟨cA, 12⟩, ⟨cB, 12⟩] #[.string ⟨#[97]⟩, .int .u64 12, .string ⟨#[98]⟩, .int .u64 12] rfl
  have hbz := below1 w22 (.cells #[.string ⟨#[97]⟩, .int .u64 12, .string ⟨#[98]⟩, .int .u64 12] 57)
  have S24 := Lib.hid (S23.out.later hbz)
  have HQ := Lib.hid (fun p q => same_yes (p := p) (q := q) (r22.later hbz) Z (by decide))
  clear S22 S23 r22 hb22 Z hbz
  go_wp2_with fail
  refine (HQ.out _ _).mono ?_
  rintro e' w23 ⟨rfl, hb23⟩
  have S25 := Lib.hid (S24.out.later hb23)
  clear hb23 HQ S24
  go_wp2_with fail
  refine (HP.out.no S25.out (k := 0) rfl G9.out).mono ?_
  rintro e' w24 ⟨rfl, hb24⟩
  have S26 := Lib.hid (S25.out.later hb24)
  clear hb24 S25
  go_wp2_with fail
  refine (HP.out.ln S26.out (k := 0) rfl G9.out).mono ?_
  rintro e' w25 ⟨rfl, hb25⟩
  have S27 := Lib.hid (S26.out.later hb25)
  clear hb25 S26
  go_wp2_with fail
  go_ret
  exact ⟨rfl, S27.out.below⟩
end Go.Proofs.Ytogfpakopckfoaa.Wl
