/- Small contracts of package table and of the document's own: sizes, the place of a segment in a list, whether it is in use; no memory that was there is changed. -/
import Derived.Test.YtpgbbbgblgkokaaTbM
import Derived.Test.YtpgbbbgblgkokaaMem
import Derived.Test.YtpgbbbgblgkokaaClass
import Derived.WalkLawsBesides
import Derived.WalkSmall
import Derived.Deep.LoopGhost
import Derived.Deep.WholeRow
namespace Go.Proofs.Ytpgbbbgblgkokaa
open Go.RowKit Go.Lib
set_option linter.unusedVariables false

theorem Ge.trans {a b c : World} (h : Below a.heap.size a b) (k : Below b.heap.size b c) : Below a.heap.size a c := h.trans (k.mono h.size)
theorem bcell {W w1 : World} (hb : Below W.heap.size W w1) : (∀ b o, b < W.heap.size → w1.cell? ⟨b, o, none⟩ = W.cell? ⟨b, o, none⟩) ∧ (∀ b o, b < W.heap.size → w1.frozen? ⟨b, o, none⟩ = W.frozen? ⟨b, o, none⟩) :=
  ⟨fun b o h => hb.cell (p := ⟨b, o, none⟩) h, fun b o h => hb.frozen (p := ⟨b, o, none⟩) h⟩
theorem below1 (w : World) (o : Obj) : Below w.heap.size w (w.alloc o) := (Below.refl _ _).alloc (Nat.le_refl _) _
theorem below_drawn (w : World) : Below w.heap.size w w.drew := (Below.refl _ _).drew
theorem ret_bool {a b : Bool} (h : a = b) : Ending.returned (.bool a) = .returned (.bool b) := by rw [h]
theorem ret_int {k : IntKind} {a b : Int} (h : a = b) : Ending.returned (.int k a) = .returned (.int k b) := by rw [h]

/-- A slice of numbers that reads as a list. -/
structure Sl (κ : IntKind) (W : World) (A : Option Addr) (m : Nat) (l : List Int) : Prop where
  len : m = l.length
  cells : CellsIn W A m (fun j => .int κ (nth l j))
section
variable {κ : IntKind} {W W' : World} {A : Option Addr} {m : Nat} {l : List Int}
theorem Sl.later (h : Sl κ W A m l) (hb : Below W.heap.size W W') : Sl κ W' A m l := ⟨h.len, h.cells.later hb⟩
theorem Sl.nil (κ : IntKind) (W : World) : Sl κ W none 0 [] := ⟨rfl, fun h => absurd h (by omega)⟩
end
/-- The lists of a table. -/
structure TIn (W : World) (A : Option Addr) (m : Nat) (B : Option Addr) (k : Nat) (C : Option Addr) (n : Nat) (o l f : List Int) : Prop where
  a : Sl .i64 W A m o
  b : Sl .i64 W B k l
  c : Sl .u64 W C n f
theorem TIn.later {W W' : World} {A : Option Addr} {m : Nat} {B : Option Addr} {k : Nat} {C : Option Addr} {n : Nat} {o l f : List Int} (h : TIn W A m B k C n o l f) (hb : Below W.heap.size W W') : TIn W' A m B k C n o l f := ⟨h.a.later hb, h.b.later hb, h.c.later hb⟩
theorem TIn.zero (W : World) : TIn W none 0 none 0 none 0 [] [] [] := ⟨Sl.nil _ _, Sl.nil _ _, Sl.nil _ _⟩

/-- A block's cells, none of them frozen. -/
def Blk (w : World) (g : Nat) (t : TypeId) (cs : Array Value) : Prop := w.heap[g]? = some (.cells cs t (0, 0))
section
variable {w w' : World} {g : Nat} {t : TypeId} {cs : Array Value}
theorem Blk.lt (h : Blk w g t cs) : g < w.heap.size := (Array.getElem?_eq_some_iff.1 h).1
theorem Blk.cell (h : Blk w g t cs) (i : Nat) : w.cell? ⟨g, i, none⟩ = cs[i]? := cell_of_row w g i cs t (0, 0) h
theorem Blk.frozen (h : Blk w g t cs) (i : Nat) : w.frozen? ⟨g, i, none⟩ = false := by
  unfold Blk at h
  simp [World.frozen?, h]
theorem Blk.new (w : World) (t : TypeId) (cs : Array Value) : Blk (w.alloc (.cells cs t)) w.heap.size t cs := heap_alloc_last w _
theorem Blk.at_ {b : Nat} (w : World) (t : TypeId) (cs : Array Value) (hb : w.heap.size = b) : Blk (w.alloc (.cells cs t)) b t cs := hb ▸ heap_alloc_last w _
theorem Blk.later (h : Blk w g t cs) (hb : Below w.heap.size w w') : Blk w' g t cs := (hb.block g h.lt).trans h
theorem Blk.row (h : Blk w g t cs) (ds : Array Value) : Blk (w.setRow g ds) g t ds := by
  unfold Blk at h ⊢
  unfold World.setRow
  rw [Array.getElem?_modify, if_pos rfl, h]
  rfl
theorem Blk.far (h : Blk w g t cs) {g' : Nat} (hg : g' ≠ g) (ds : Array Value) : Blk (w.setRow g' ds) g t cs := by
  unfold Blk at h ⊢
  unfold World.setRow
  rw [Array.getElem?_modify, if_neg hg, h]
theorem row_size (w : World) (g : Nat) (ds : Array Value) : (w.setRow g ds).heap.size = w.heap.size := by unfold World.setRow; simp
theorem below_row {n : Nat} {w0 : World} (hb : Below n w0 w) (hg : n ≤ g) (ds : Array Value) : Below n w0 (w.setRow g ds) :=
  ⟨hb.os, hb.tape, hb.output, by rw [row_size]; exact hb.size, fun b hbn => by
    unfold World.setRow
    rw [Array.getElem?_modify, if_neg (by omega)]
    exact hb.block b hbn⟩
end

/-- A table's cells. -/
def csT (sg st : Int) (A : Option Addr) (m p : Nat) (B : Option Addr) (k q : Nat) (C : Option Addr) (n r : Nat) : Array Value := #[.int .i64 sg, .int .i64 st, .slice A m p, .slice B k q, .slice C n r]
theorem csT_one (sg st : Int) (A : Option Addr) (m p : Nat) (B : Option Addr) (k q : Nat) (C : Option Addr) (n r : Nat) : (csT sg st A m p B k q C n r).all (·.oneCell') = true := by simp [csT, Value.oneCell']

theorem slots_is (st : Int) (b : Bool) (w : World) (hb : decide (1 ≤ st ∧ st ≤ 30) = b) : Calls Try.prog 45 #[.int .i64 st] w fun e w' => e = .returned (.bool b) ∧ w = w' := by
  subst hb
  by_cases h1 : 1 ≤ st
  · have e : decide (1 ≤ st ∧ st ≤ 30) = decide (st ≤ 30) := by simp [h1]
    rw [e]
    cases hd : decide (st ≤ 30)
    · have h2 : ¬ st ≤ 30 := of_decide_eq_false hd
      clear hd e
      go_enter Try.func45, Try.ntmps45
      go_wp2_with fail
      go_ret
      exact ⟨rfl, rfl⟩
    · have h2 : st ≤ 30 := of_decide_eq_true hd
      clear hd e
      go_enter Try.func45, Try.ntmps45
      go_wp2_with fail
      go_ret
      exact ⟨rfl, rfl⟩
  · have e : decide (1 ≤ st ∧ st ≤ 30) = false := by simp [h1]
    rw [e]
    have h1' : st < 1 := by omega
    clear e h1
    go_enter Try.func45, Try.ntmps45
    go_wp2_with fail
    go_ret
    exact ⟨rfl, rfl⟩

theorem size_is (sg st : Int) (b : Bool) (w : World) (hb : sizeB sg st = b) : Calls Try.prog 32 #[.int .i64 sg, .int .i64 st] w fun e w' => e = .returned (.bool b) ∧ w = w' := by
  subst hb
  unfold sizeB
  by_cases h1 : 4 ≤ sg
  case neg =>
    have e : decide ((4 ≤ sg ∧ sg ≤ 16) ∧ 1 ≤ st ∧ st ≤ 30) = false := by simp [h1]
    rw [e]
    have h1' : sg < 4 := by omega
    clear e h1
    go_enter Try.func32, Try.ntmps32
    go_wp2_with fail
    go_ret
    exact ⟨rfl, rfl⟩
  by_cases h2 : sg ≤ 16
  case neg =>
    have e : decide ((4 ≤ sg ∧ sg ≤ 16) ∧ 1 ≤ st ∧ st ≤ 30) = false := by simp [h2]
    rw [e]
    have h1' : 16 < sg := by omega
    clear e h2
    go_enter Try.func32, Try.ntmps32
    go_wp2_with fail
    go_ret
    exact ⟨rfl, rfl⟩
  have e : decide ((4 ≤ sg ∧ sg ≤ 16) ∧ 1 ≤ st ∧ st ≤ 30) = decide (1 ≤ st ∧ st ≤ 30) := by simp [h1, h2]
  rw [e]
  obtain ⟨b, Hb⟩ : ∃ b, Hid (decide (1 ≤ st ∧ st ≤ 30) = b) := ⟨_, Lib.hid rfl⟩
  rw [Hb.out]
  clear e
  go_enter Try.func32, Try.ntmps32
  go_wp2_with fail
  refine (slots_is st b _ Hb.out).mono ?_
  rintro e w' ⟨rfl, rfl⟩
  go_wp2_with fail
  go_ret
  exact ⟨rfl, rfl⟩

theorem may_is (sg st : Int) (b : Bool) (w : World) (hb : sizeB sg st = b) : Calls Try.prog 34 #[.int .i64 sg, .int .i64 st] w fun e w' => e = .returned (.bool b) ∧ w = w' := by
  subst hb
  unfold sizeB
  by_cases h1 : 4 ≤ sg
  case neg =>
    have e : decide ((4 ≤ sg ∧ sg ≤ 16) ∧ 1 ≤ st ∧ st ≤ 30) = false := by simp [h1]
    rw [e]
    have h1' : sg < 4 := by omega
    clear e h1
    go_enter Try.func34, Try.ntmps34
    go_wp2_with fail
    go_ret
    exact ⟨rfl, rfl⟩
  by_cases h2 : sg ≤ 16
  case neg =>
    have e : decide ((4 ≤ sg ∧ sg ≤ 16) ∧ 1 ≤ st ∧ st ≤ 30) = false := by simp [h2]
    rw [e]
    have h1' : 16 < sg := by omega
    clear e h2
    go_enter Try.func34, Try.ntmps34
    go_wp2_with fail
    go_ret
    exact ⟨rfl, rfl⟩
  by_cases h3 : 1 ≤ st
  case neg =>
    have e : decide ((4 ≤ sg ∧ sg ≤ 16) ∧ 1 ≤ st ∧ st ≤ 30) = false := by simp [h3]
    rw [e]
    have h1' : st < 1 := by omega
    clear e h3
    go_enter Try.func34, Try.ntmps34
    go_wp2_with fail
    go_ret
    exact ⟨rfl, rfl⟩
  by_cases h4 : st ≤ 30
  · have e : decide ((4 ≤ sg ∧ sg ≤ 16) ∧ 1 ≤ st ∧ st ≤ 30) = true := by simp [h1, h2, h3, h4]
    rw [e]
    clear e
    go_enter Try.func34, Try.ntmps34
    go_wp2_with fail
    go_ret
    exact ⟨rfl, rfl⟩
  · have e : decide ((4 ≤ sg ∧ sg ≤ 16) ∧ 1 ≤ st ∧ st ≤ 30) = false := by simp [h4]
    rw [e]
    have h1' : 30 < st := by omega
    clear e h4
    go_enter Try.func34, Try.ntmps34
    go_wp2_with fail
    go_ret
    exact ⟨ret_bool (decide_eq_false (by omega)), rfl⟩

theorem index_any (A : Option Addr) (m p : Nat) (l : List Int) (x : Int) (w : World) (h : Sl .i64 w A m l) (hm : m ≤ maxLen) :
    Calls Try.prog 44 #[.slice A m p, .int .i64 x] w fun e w' => e = .returned (.int .i64 (idx l x)) ∧ w = w' := by
  unfold maxLen at hm
  have HL := Lib.hid h.len
  by_cases hz : m = 0
  · subst hz
    have h1 := List.length_eq_zero_iff.1 h.len.symm
    subst h1
    rw [idx_no (by simp)]
    go_enter Try.func44, Try.ntmps44
    go_wp2_with fail
    refine wp_loop_rounds 1 ?_
    rw [rounds_succ]
    go_wp2_with fail
    go_ret
    exact ⟨rfl, rfl⟩
  obtain ⟨b, off, rfl, hb, hc⟩ := h.cells (by omega)
  have HC := Lib.hid hc
  clear hc h
  go_enter Try.func44, Try.ntmps44
  go_wp2_with fail
  go_loop [8] (fun s8 => ∃ i : Nat, i ≤ m ∧ s8 = .int .i64 i ∧ Hid (x ∉ l.take i)) (fun s8 => m - (intOf s8).toNat)
  case atStart => exact ⟨0, by omega, rfl, Lib.hid (by simp)⟩
  case round =>
    obtain ⟨i, hi, rfl, HN⟩ := hrel
    by_cases hlt : i < m
    · have hlti : (i : Int) < (m : Int) := by omega
      have hil : i < l.length := by have := HL.out; omega
      have c1 := HC.out i hlt
      obtain ⟨y, Y⟩ : ∃ y, Hid (nth l i = y) := ⟨_, rfl⟩
      simp only [Y.out] at c1
      by_cases hxy : x = y
      · have HD := Lib.hid (idx_at hil (Y.out.trans hxy.symm) HN.out)
        have hq : (x == y) = true := by simp [hxy]
        clear hxy
        go_wp2_with fail
        go_ret
        exact ⟨ret_int HD.out.symm, rfl⟩
      · have HN2 : Hid (x ∉ l.take (i + 1)) := Lib.hid (by rw [take_nth hil, Y.out]; simp; exact ⟨HN.out, hxy⟩)
        have hq : (x == y) = false := by simp [hxy]
        clear hxy
        go_wp2_with fail
        go_round
        case rel => exact ⟨i + 1, by omega, by go_num, HN2⟩
        case measure => simp [intOf]; omega
    · obtain rfl : i = m := by omega
      have hlti : ¬ (i : Int) < (i : Int) := by omega
      have HD : Hid (idx l x = -1) := Lib.hid (idx_no (by have := HN.out; rw [List.take_of_length_le (by have := HL.out; omega)] at this; exact this))
      go_wp2_with fail
      go_ret
      exact ⟨ret_int HD.out.symm, rfl⟩

theorem index_is (A : Option Addr) (m p : Nat) (l : List Int) (x y : Int) (w : World) (h : Sl .i64 w A m l) (hm : m ≤ maxLen) (hy : idx l x = y) :
    Calls Try.prog 44 #[.slice A m p, .int .i64 x] w fun e w' => e = .returned (.int .i64 y) ∧ w = w' := by
  subst hy; exact index_any A m p l x w h hm

theorem has_is (A : Option Addr) (m p : Nat) (l : List Int) (x : Int) (b : Bool) (w : World) (h : Sl .i64 w A m l) (hm : m ≤ maxLen) (hb : decide (x ∈ l) = b) :
    Calls Try.prog 50 #[.slice A m p, .int .i64 x] w fun e w' => e = .returned (.bool b) ∧ w = w' := by
  obtain ⟨y, Y⟩ : ∃ y, Hid (idx l x = y) := ⟨_, Lib.hid rfl⟩
  have H := Lib.hid (index_is A m p l x y w h hm Y.out)
  have h2 := idx_neg (l := l) (x := x)
  rw [Y.out] at h2
  cases b with
  | true =>
    have hy : 0 ≤ y := by
      have := of_decide_eq_true hb
      exact Int.not_lt.1 fun hn => h2.1 hn this
    clear hb h2 h
    go_enter Try.func50, Try.ntmps50
    go_wp2_with fail
    refine H.out.mono ?_
    rintro e w' ⟨rfl, rfl⟩
    go_wp2_with fail
    go_ret
    exact ⟨rfl, rfl⟩
  | false =>
    have hy : y < 0 := h2.2 (of_decide_eq_false hb)
    clear hb h2 h
    go_enter Try.func50, Try.ntmps50
    go_wp2_with fail
    refine H.out.mono ?_
    rintro e w' ⟨rfl, rfl⟩
    go_wp2_with fail
    go_ret
    exact ⟨ret_bool (decide_eq_false (by omega)), rfl⟩

theorem open_is (sg st : Int) (A : Option Addr) (m p : Nat) (B : Option Addr) (k q : Nat) (C : Option Addr) (n r : Nat) (x : Int) (w : World) (hm : m ≤ maxLen) (hx : (m : Int) - 1 = x) :
    Calls Try.prog 43 #[.agg #[.int .i64 sg, .int .i64 st, .slice A m p, .slice B k q, .slice C n r]] w fun e w' => e = .returned (.int .i64 x) ∧ Below w.heap.size w w' := by
  unfold maxLen at hm
  have B := Lib.hid (below1 w (.cells #[.int .i64 sg, .int .i64 st, .slice A m p, .slice B k q, .slice C n r] 28))
  have HX := Lib.hid hx
  clear hx
  go_enter Try.func43, Try.ntmps43
  go_wp2_with fail
  go_ret
  exact ⟨ret_int HX.out, B.out⟩
end Go.Proofs.Ytpgbbbgblgkokaa
