/- The program's copies; an element found, and taken away. -/
import Derived.Test.YtfhdckmpodmejaaSwE
import Derived.Test.YtfhdckmpodmejaaShelf
import Derived.Lib.OwnBridge
namespace Go.Proofs.Ytfhdckmpodmejaa.Sw
open Go.ChangeShapes Go.WideShapes Go.ChangeAt Go.RowKit Go.Lib Go.Joins Go.Deep
open Sp Rw
set_option linter.unusedVariables false
set_option linter.unusedSimpArgs false
set_option maxRecDepth 100000

/-- New things stay, where what is older than they are, but newer than the call, is written. -/
theorem sep_base {w W w1 w2 : World} {items : List Sp.Item} (h : Sp.Sep W w1 items) (hb : Below w.heap.size w W) (ho : Only (fun b => w.heap.size ≤ b ∧ b < W.heap.size) w1 w2) : Sp.Sep w w2 items := by
  obtain ⟨hW, Gs, hl, hh, hd, hN⟩ := h
  have h1 : Below w.heap.size w w1 := hb.trans (hW.mono hb.size)
  refine ⟨h1.trans (ho.below h1.size (fun i hi => hi.1)), Gs, hl, fun i it G hi hG => ?_, hd, fun i G hi b hb' => Nat.le_trans hb.size (hN i G hi b hb')⟩
  have h2 := hh i it G hi hG
  exact it.stable h2 (fun b hb' => ho.block b (it.lt h2 b hb') (fun h3 => by have := hN i G hG b hb'; omega)) ho.size
/-- A new row of numbers. -/
abbrev row (A : Option Addr) (p : Nat) (l : List Int) : Sp.Item := rowS 3 1 (.slice A l.length p) l.length (iv l)
set_option maxHeartbeats 1000000 in
theorem clone_any {w : World} {A : Option Addr} {n p : Nat} {l : List Int} (h : VR w A n (iv l)) (hn : n < 1000) :
    Calls Try.prog 41 #[.slice A n p] w fun e w' => ∃ A' p', e = .returned (.slice A' l.length p') ∧ Sp.Sep w w' [row A' p' l] := by
  have hml : n = l.length := by have := h.len; rwa [iv_len] at this
  subst hml
  have q := fun (w : World) (a : Option Addr) (n c n' c' : Nat) => Lib.run_eql_slice_nil (P := Try.prog) w _ 3 a n c n' c' Try.underlying23
  cases A with
  | none =>
    have hz : l.length = 0 := by
      rcases Nat.eq_zero_or_pos l.length with h0 | h0
      · exact h0
      · obtain ⟨g, o, e, _⟩ := h.c h0
        cases e
    have hl : l = [] := List.eq_nil_of_length_eq_zero hz
    subst hl
    have S := Lib.hid (show Sp.Sep w w [row none 0 []] from rows_nil (Sp.Sep.nil (Below.refl _ w)) 3 1)
    clear h hn hz
    go_enter Try.func41, Try.ntmps41
    go_wp2_with fail
    go_ret
    exact ⟨none, 0, rfl, S.out⟩
  | some ad =>
    obtain ⟨A5, p5, W5, hrun, S5⟩ := run_app_new (c := p) h hn
    have H5 := Lib.hid S5
    clear S5 h hn
    go_enter Try.func41, Try.ntmps41
    go_wp2_with (at_builtin; refine wp_push 23 rfl (.tmp 5) (.tmp 6) rfl rfl _ _ rfl rfl hrun ?_)
    go_ret
    first | exact ⟨A5, p5, rfl, H5.out⟩ | exact ⟨A5, ⟨p5, rfl⟩, H5.out⟩
set_option maxHeartbeats 1000000 in
/-- A state's copy. -/
theorem copied_any (s : St) (A : Option Addr) (p : Nat) (w : World) (hA : VR w A s.t.length (iv s.t)) (hn : s.t.length < 1000) :
    Calls Try.prog 36 #[.agg (sc s A p)] w fun e w' => ∃ A' p', e = .returned (.agg (sc s A' p')) ∧ Sp.Sep w w' [row A' p' s.t] := by
  obtain ⟨b0, hb0⟩ : ∃ b0, w.heap.size = b0 := ⟨_, rfl⟩
  obtain ⟨W, hW⟩ : ∃ W, (w.alloc (.cells (sc s A p) 25)).alloc (.cells #[.slice none 0 0, .int .i64 0, .int .i64 0, .int .i64 0] 25) = W := ⟨_, rfl⟩
  have HB := Lib.hid (show Below w.heap.size w W by rw [← hW]; exact (below1 _ _).alloc (by simp) _)
  have BS : Hid (Sp.Blk W b0 25 (sc s A p)) := Lib.hid (by rw [← hW, ← hb0]; exact (Sp.Blk.new _ _ _).later (below1 _ _))
  have BR : Hid (Sp.Blk W (b0 + 1) 25 #[.slice none 0 0, .int .i64 0, .int .i64 0, .int .i64 0]) := Lib.hid (by rw [← hW, ← hb0]; exact Sp.Blk.at_ _ _ _ (by simp))
  have HZ := Lib.hid hb0
  have c0 := (st_cells BS.out).1
  have CC := Lib.hid (clone_any (p := p) (hA.later HB.out) hn)
  clear hA hn
  go_enter Try.func36, Try.ntmps36
  go_upto_region 1 with fail
  clear hW hb0
  go_upto_region 2 with (go_at_call 41; refine CC.out.mono ?_; rintro e1 w1 ⟨A1, p1, rfl, S1⟩; have H1 := Lib.hid S1; have b1 := BS.out.later S1.below; have b2 := BR.out.later S1.below; have q0 := b1.cell 0; have q1 := b1.frozen 0; simp only [List.getElem?_toArray, List.getElem?_cons_zero] at q0; clear S1)
  have e1 : w1.setCell ⟨b0, 0, none⟩ (.slice A1 s.t.length p1) = w1.setRow b0 (sc s A1 p1) := set_row b1 0 _
  rw [e1]
  have b3 : Sp.Blk (w1.setRow b0 (sc s A1 p1)) b0 25 (sc s A1 p1) := b1.row _
  have b4 := b2.far (show b0 ≠ b0 + 1 by omega) (sc s A1 p1)
  clear e1 q0 q1 b1 b2 c0
  go_wp2_with (first
    | (with_reducible refine load_p rfl (.tmp 1) rfl b0 rfl b3 ?_)
    | (with_reducible refine store_p rfl (.tmp 2) (.tmp 7) rfl (b0 + 1) rfl rfl b4 ?_))
  refine bodyPost_ret (res_p1 rfl _ _ _ rfl (b4.row _)) rfl ?_
  have hl1 := BS.out.lt
  have hl2 := BR.out.lt
  have hz := HZ.out
  exact ⟨A1, p1, rfl, sep_base H1.out HB.out (((Only.refl _ w1).setRow (.inl ⟨by omega, hl1⟩) _).setRow (.inl ⟨by omega, hl2⟩) _)⟩
theorem first_at {x : Int} : ∀ {l : List Int}, x ∈ l → ∃ i : Nat, l[i]? = some x ∧ x ∉ l.take i
  | [], h => by cases h
  | y :: l, h => by
    by_cases e : y = x
    · exact ⟨0, by simp [e], by simp⟩
    · obtain ⟨i, h1, h2⟩ := first_at (l := l) (by
        rcases List.mem_cons.1 h with h | h
        · exact absurd h.symm e
        · exact h)
      refine ⟨i + 1, by simpa using h1, ?_⟩
      rw [List.take_succ_cons, List.mem_cons]
      rintro (h | h)
      · exact e h.symm
      · exact h2 h
/-- The first place, or -1. -/
def At (l : List Int) (x R : Int) : Prop := (R = -1 ∧ x ∉ l) ∨ ∃ i : Nat, R = (i : Int) ∧ l[i]? = some x ∧ x ∉ l.take i
theorem at_some {l : List Int} {x R : Int} (h : At l x R) {i : Nat} (hx : l[i]? = some x) (hn : x ∉ l.take i) : R = (i : Int) := by
  rcases h with ⟨_, h⟩ | ⟨j, rfl, h1, h2⟩
  · exact absurd (List.mem_of_getElem? hx) h
  · have hij : ¬ i < j := fun h => h2 (List.mem_of_getElem? (i := i) (by rw [List.getElem?_take_of_lt h]; exact hx))
    have hji : ¬ j < i := fun h => hn (List.mem_of_getElem? (i := j) (by rw [List.getElem?_take_of_lt h]; exact h1))
    omega
theorem at_none {l : List Int} {x R : Int} (h : At l x R) (hn : x ∉ l) : R = -1 := by
  rcases h with ⟨h, _⟩ | ⟨j, _, h1, _⟩
  · exact h
  · exact absurd (List.mem_of_getElem? h1) hn
set_option maxHeartbeats 1000000 in
theorem idx_any {w : World} {A : Option Addr} {n p : Nat} {l : List Int} {x R : Int} (h : VR w A n (iv l)) (hn : n ≤ 1000) (hR : At l x R) :
    Calls Try.prog 37 #[.slice A n p, .int .i64 x] w fun e w' => e = .returned (.int .i64 R) ∧ w' = w := by
  have HN := Lib.hid hn
  have HV := Lib.hid h
  have HRR := Lib.hid hR
  have HL : Hid (n = l.length) := Lib.hid (by rw [← iv_len]; exact h.len)
  clear hn h hR
  go_enter Try.func37, Try.ntmps37
  go_upto_region 2 with fail
  go_loopg [8] n (fun gk s8 wr => ∃ i : Nat, i ≤ n ∧ gk = n - i ∧ s8 = .int .i64 (i : Nat) ∧ wr = w ∧ Hid (¬ x ∈ l.take i))
  case atStart => exact ⟨0, by omega, rfl, rfl, rfl, Lib.hid (by simp)⟩
  case round =>
    obtain ⟨i, hi, hgk, rfl, rfl, HT⟩ := hrel
    have HG := Lib.hid hgk
    clear hgk
    by_cases hlt : i < n
    · have hl1 : (i : Int) < (n : Int) := by omega
      have wi : IntKind.i64.wrap ((i : Int) + 1) = (i : Int) + 1 := IntWalk.i64_in _ (by have := HN.out; omega)
      obtain ⟨g, o, rfl, hc⟩ := HV.out.c (by omega)
      obtain ⟨y, hy⟩ : ∃ y, l[i]? = some y := ⟨_, List.getElem?_eq_getElem (by have := HL.out; omega)⟩
      have c1 := hc i _ (iv_at hy)
      have HY := Lib.hid hy
      clear hy hc
      by_cases hxy : x = y
      · subst hxy
        have he : (x == x) = true := by simp
        have HE := Lib.hid (at_some HRR.out HY.out HT.out)
        go_wp2_with fail
        go_ret
        exact ⟨by rw [HE.out]; rfl, rfl⟩
      · have he : (x == y) = false := by simp; exact hxy
        have HT2 : Hid (¬ x ∈ l.take (i + 1)) := Lib.hid (by
          rw [take_one HY.out, List.mem_append]
          rintro (h | h)
          · exact HT.out h
          · exact hxy (List.mem_singleton.1 h))
        go_wp2_with fail
        go_roundg (n - (i + 1))
        case measure => have := HG.out; omega
        case rel => exact ⟨i + 1, by omega, by have := HG.out; omega, by go_num, rfl, HT2⟩
    · obtain rfl : i = n := by omega
      have hl1 : ¬ (i : Int) < (i : Int) := by omega
      have HE := Lib.hid (at_none HRR.out (by have := HT.out; rwa [List.take_of_length_le (by have := HL.out; omega)] at this))
      go_wp2_with fail
      go_ret
      exact ⟨by rw [HE.out]; rfl, rfl⟩
/-- One element taken away. -/
theorem del_any {W w : World} {A : Option Addr} {p i : Nat} {l : List Int} {rest : List Sp.Item} (h : Sp.Sep W w (row A p l :: rest)) (hi : i < l.length) :
    Calls Try.prog 39 #[.slice A l.length p, .int .i64 (i : Nat), .int .i64 ((i : Int) + 1)] w fun e w' => e = .returned (.slice A (l.take i ++ l.drop (i + 1)).length p) ∧ Sp.Sep W w' (row A p (l.take i ++ l.drop (i + 1)) :: rest) := by
  have ho : w.ownsRow 0 3 1 (.slice A l.length p) l.length (l.map (Value.int .i64)) := rows_own h (k := 0) rfl
  obtain ⟨g, cap, hv, hb, hlt, hn, hm, hlen, hH⟩ := Lib.holds_of_ownsRow ho (by intro e; injection e with _ e2 _; omega)
  injection hv with e1 e2 e3
  subst e1 e3
  have hl2 : (l.take i ++ l.drop (i + 1)).length = l.length - (i + 1 - i) := by rw [List.length_append, List.length_take, List.length_drop]; omega
  have hs := Sh.slices_Delete_int g 0 p i (i + 1) l w hH hn (by unfold maxLen at hm; omega) (by omega) (by omega)
  rw [show (((i + 1 : Nat) : Int)) = (i : Int) + 1 by omega] at hs
  refine hs.mono ?_
  rintro e w' ⟨rfl, q, rfl⟩
  refine ⟨by rw [hl2], ?_⟩
  obtain ⟨G, ⟨_, hG⟩, _, _, put⟩ := h.at_ 0 rfl
  refine put _ G (row (some ⟨g, 0, none⟩) p (l.take i ++ l.drop (i + 1))) ⟨?_, fun b => (hG b).trans Iff.rfl⟩ (Grew.refl _ _) ⟨rfl, rfl, rfl, by simp [Sort.putRow, Sort.mapBlock, Sort.ahead], fun k hk hnk => ?_⟩
  · have h3 := Lib.ownsRow_putRow (q := q) (k := (l.take i ++ l.drop (i + 1)).length) (ys := l.take i ++ l.drop (i + 1) ++ List.replicate (i + 1 - i) 0) ho (by rw [List.length_append, hl2, List.length_replicate]; omega) (by rw [hl2]; omega)
    rw [List.take_left' rfl] at h3
    exact h3
  · have hne : g ≠ k := fun e => hnk ((hG k).2 (by rw [← e]; rfl))
    simp [Sort.putRow, Sort.mapBlock, Sort.ahead, Array.getElem?_modify, hne]
end Go.Proofs.Ytfhdckmpodmejaa.Sw
