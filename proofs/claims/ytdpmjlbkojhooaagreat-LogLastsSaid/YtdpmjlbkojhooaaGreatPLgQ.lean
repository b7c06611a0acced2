/- A part of the proofs of the statements about logs. -/
import Derived.Test.YtdpmjlbkojhooaaGreatPLgO
namespace Go.Proofs.YtdpmjlbkojhooaaGreat.Lg
open Go.RowKit Go.Lib
open Tb (Tab TIn Sl okP csT lastN nth Fresh)
open Dk (St Only Grew)
set_option linter.unusedVariables false
set_option maxRecDepth 100000
def MadeR (PL : Nat → Nat → Tab → Int → Int → Int → Dk.Item) (W : World) (items : List Dk.Item) (n sg sl : Int) (x : Nat) (rt : Int) (S : ByteArray) (e : Ending) (w' : World) : Prop :=
  ((n < 1 ∨ 4096 < n) ∧ e = .returned (.tuple #[.pointer none, .pointer none, .int .i64 1]) ∧ Dk.Sep W w' items) ∨
  ((1 ≤ n ∧ n ≤ 4096) ∧ fmtE (St.new n) sg sl x rt S ≠ 0 ∧ ∃ d, e = .returned (.tuple #[.pointer none, .pointer (some ⟨d, 0, none⟩), .int .i64 (fmtE (St.new n) sg sl x rt S)]) ∧ Dk.Sep W w' (items ++ [Dk.diskI d (fmtD (St.new n) sg sl x rt S)])) ∨
  ((1 ≤ n ∧ n ≤ 4096) ∧ fmtE (St.new n) sg sl x rt S = 0 ∧ ∃ g d, e = .returned (.tuple #[.pointer (some ⟨g, 0, none⟩), .pointer (some ⟨d, 0, none⟩), .int .i64 0]) ∧ Dk.Sep W w' (items ++ [Dk.diskI d (fmtD (St.new n) sg sl x rt S), PL g d (Tb.newT sg sl 1) 1 1 1]))
set_option maxHeartbeats 4000000 in
theorem made_any {PL : Nat → Nat → Tab → Int → Int → Int → Dk.Item} (P : Prg PL) {W w : World} {items : List Dk.Item} (h : Dk.Sep W w items) (n sg sl rt : Int) (x : Nat) (hx : x < 18446744073709551616) (S : ByteArray) (hS : Cp.secL ⟨1, 1, 1, 0, [0], [0]⟩ = S.data.toList) :
    Calls Tryz.prog 11 #[.int .i64 n, .agg #[.int .i64 sg, .int .i64 sl, .float .f64 x, .int .i64 rt]] w (MadeR PL W items n sg sl x rt S) := by
  have N1 : Tb.Blk (w.alloc (.cells (csF sg sl x rt) 24)) w.heap.size 24 (csF sg sl x rt) := Tb.Blk.new w _ _
  have h1 := h.alloc (.cells (csF sg sl x rt) 24)
  clear h
  go_enter Tryz.func11, Tryz.ntmps11
  go_upto_region 1 with fail
  change Code.wp _ _ _ _ (w.alloc (.cells (csF sg sl x rt) 24))
  obtain ⟨b, hb⟩ : ∃ b, w.heap.size = b := ⟨_, rfl⟩
  rw [hb] at N1 ⊢
  generalize w.alloc (.cells (csF sg sl x rt) 24) = w1 at *
  clear hb
  by_cases hn : n < 1 ∨ 4096 < n
  · have HH := Lib.hid h1
    have HN := Lib.hid hn
    have HC := Lib.hid (Dk.new_no (w := w1) n hn)
    clear h1 hn
    go_wp2_with fail
    refine HC.out.mono ?_
    rintro e' w2 ⟨rfl, rfl⟩
    go_wp2_with fail
    go_ret3
    exact (.inl ⟨HN.out, rfl, HH.out⟩)
  have HN : Hid (1 ≤ n ∧ n ≤ 4096) := Lib.hid (by omega)
  have HC := Lib.hid (Dk.new_yes (w := w1) n HN.out.1 HN.out.2)
  clear hn
  go_wp2_with fail
  refine HC.out.mono ?_
  rintro e' w2 ⟨d, F, rfl, hD, hF, hb2⟩
  have h2 := h1.new (Dk.diskI d (St.new n)) hD hF hb2
  have M1 := N1.later hb2
  have HF := Lib.hid (P.fmt h2 app_last sg sl rt x hx (by simp [Dk.St.new]) S hS)
  rw [app_set_last] at HF
  clear HC h1 h2 N1 hD hF hb2
  go_wp2_with (with_reducible refine load_cf rfl (.tmp 3) rfl b rfl M1 ?_)
  refine HF.out.mono ?_
  rintro e' w3 (⟨h0, g, rfl, h3⟩ | ⟨h0, rfl, h3⟩)
  · have H3 := Lib.hid (And.intro h0 h3)
    clear HF h0 h3 M1
    go_wp2_with fail
    go_ret3
    exact (.inr (.inr ⟨HN.out, H3.out.1, g, d, rfl, by have := H3.out.2; rw [List.append_assoc] at this; exact this⟩))
  · have H3 := Lib.hid (And.intro h0 h3)
    clear HF h0 h3 M1
    go_wp2_with fail
    go_ret3
    exact (.inr (.inl ⟨HN.out, H3.out.1, d, rfl, H3.out.2⟩))
end Go.Proofs.YtdpmjlbkojhooaaGreat.Lg
