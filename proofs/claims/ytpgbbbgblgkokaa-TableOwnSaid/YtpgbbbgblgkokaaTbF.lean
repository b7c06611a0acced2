/- Contracts of table's copied, opened and New: a table with lists of the call's own; no memory that was there is changed. -/
import Derived.Test.YtpgbbbgblgkokaaTbE
import Derived.Deep.Cut
namespace Go.Proofs.Ytpgbbbgblgkokaa
open Go.RowKit Go.Lib
set_option linter.unusedVariables false

theorem info_t : (Try.prog.info? 28).map (·.size) = some 5 := by kernel_rfl
theorem info_r : (Try.prog.info? 32).map (·.size) = some 5 := by kernel_rfl
section
variable {ops : Array Oper} {rest : List Oper} {o : Oper} {a : Act} {w : World} {Q : Exit → Act → World → Prop}
theorem load_t (hgd : o.guard = none) (x : Operand) (ho : o.op = .load 28 x) (b : Nat) (hx : a.eval x = .pointer (some ⟨b, 0, none⟩)) {sg st : Int} {A : Option Addr} {m p : Nat} {B : Option Addr} {k q : Nat} {C : Option Addr} {n r : Nat} {t : TypeId} (hg : Blk w b t (csT sg st A m p B k q C n r))
    (h : wpList Try.prog ops Q rest (a.put o.dst (.agg #[.int .i64 sg, .int .i64 st, .slice A m p, .slice B k q, .slice C n r])) w) : wpList Try.prog ops Q (o :: rest) a w :=
  wpList_load_row hgd _ x ho b hx _ (csT sg st A m p B k q C n r) (0, 0) _ hg Try.underlying28 rfl info_t h
theorem store_t (hgd : o.guard = none) (x y : Operand) (ho : o.op = .store 28 x y) (b : Nat) (hx : a.eval x = .pointer (some ⟨b, 0, none⟩)) {sg st : Int} {A : Option Addr} {m p : Nat} {B : Option Addr} {k q : Nat} {C : Option Addr} {n r : Nat} (hy : a.eval y = .agg #[.int .i64 sg, .int .i64 st, .slice A m p, .slice B k q, .slice C n r]) {sg0 st0 : Int} {A0 : Option Addr} {m0 p0 : Nat} {B0 : Option Addr} {k0 q0 : Nat} {C0 : Option Addr} {n0 r0 : Nat} {t : TypeId} (hg : Blk w b t (csT sg0 st0 A0 m0 p0 B0 k0 q0 C0 n0 r0))
    (h : wpList Try.prog ops Q rest (a.put o.dst undef) (w.setRow b (csT sg st A m p B k q C n r))) : wpList Try.prog ops Q (o :: rest) a w :=
  wpList_store_row hgd _ x y ho b (csT sg st A m p B k q C n r) hx hy _ _ hg info_t rfl (csT_one sg st A m p B k q C n r) h
theorem load_r (hgd : o.guard = none) (x : Operand) (ho : o.op = .load 32 x) (b : Nat) (hx : a.eval x = .pointer (some ⟨b, 0, none⟩)) {sg st : Int} {A : Option Addr} {m p : Nat} {B : Option Addr} {k q : Nat} {C : Option Addr} {n r : Nat} {t : TypeId} (hg : Blk w b t (csT sg st A m p B k q C n r))
    (h : wpList Try.prog ops Q rest (a.put o.dst (.agg #[.int .i64 sg, .int .i64 st, .slice A m p, .slice B k q, .slice C n r])) w) : wpList Try.prog ops Q (o :: rest) a w :=
  wpList_load_row hgd _ x ho b hx _ (csT sg st A m p B k q C n r) (0, 0) _ hg Try.underlying32 rfl info_r h
theorem store_r (hgd : o.guard = none) (x y : Operand) (ho : o.op = .store 32 x y) (b : Nat) (hx : a.eval x = .pointer (some ⟨b, 0, none⟩)) {sg st : Int} {A : Option Addr} {m p : Nat} {B : Option Addr} {k q : Nat} {C : Option Addr} {n r : Nat} (hy : a.eval y = .agg #[.int .i64 sg, .int .i64 st, .slice A m p, .slice B k q, .slice C n r]) {sg0 st0 : Int} {A0 : Option Addr} {m0 p0 : Nat} {B0 : Option Addr} {k0 q0 : Nat} {C0 : Option Addr} {n0 r0 : Nat} {t : TypeId} (hg : Blk w b t (csT sg0 st0 A0 m0 p0 B0 k0 q0 C0 n0 r0))
    (h : wpList Try.prog ops Q rest (a.put o.dst undef) (w.setRow b (csT sg st A m p B k q C n r))) : wpList Try.prog ops Q (o :: rest) a w :=
  wpList_store_row hgd _ x y ho b (csT sg st A m p B k q C n r) hx hy _ _ hg info_r rfl (csT_one sg st A m p B k q C n r) h
end
theorem res_t1 {fn : Func} {p' : Tmp} (h : fn.results = #[.cell p' 28]) (tmps : Array Value) (W : World) (b : Nat) {sg st : Int} {A : Option Addr} {m p : Nat} {B : Option Addr} {k q : Nat} {C : Option Addr} {n r : Nat} {t : TypeId} (hp : tmps.getD p' undef = .pointer (some ⟨b, 0, none⟩)) (L : Blk W b t (csT sg st A m p B k q C n r)) :
    (results fn tmps).run Try.prog W = .ok (.agg #[.int .i64 sg, .int .i64 st, .slice A m p, .slice B k q, .slice C n r]) W :=
  results_cell_row h tmps W b t (csT sg st A m p B k q C n r) (0, 0) _ hp L Try.underlying28 rfl info_t
theorem res_r1 {fn : Func} {p' : Tmp} (h : fn.results = #[.cell p' 32]) (tmps : Array Value) (W : World) (b : Nat) {sg st : Int} {A : Option Addr} {m p : Nat} {B : Option Addr} {k q : Nat} {C : Option Addr} {n r : Nat} {t : TypeId} (hp : tmps.getD p' undef = .pointer (some ⟨b, 0, none⟩)) (L : Blk W b t (csT sg st A m p B k q C n r)) :
    (results fn tmps).run Try.prog W = .ok (.agg #[.int .i64 sg, .int .i64 st, .slice A m p, .slice B k q, .slice C n r]) W :=
  results_cell_row h tmps W b t (csT sg st A m p B k q C n r) (0, 0) _ hp L Try.underlying32 rfl info_r
theorem res_t2 {fn : Func} {p' q' : Tmp} (h : fn.results = #[.cell p' 28, .tmp q']) (tmps : Array Value) (W : World) (b : Nat) {sg st : Int} {A : Option Addr} {m p : Nat} {B : Option Addr} {k q : Nat} {C : Option Addr} {n r : Nat} {t : TypeId} {y : Value} (hp : tmps.getD p' undef = .pointer (some ⟨b, 0, none⟩)) (hq : tmps.getD q' undef = y) (L : Blk W b t (csT sg st A m p B k q C n r)) :
    (results fn tmps).run Try.prog W = .ok (.tuple #[.agg #[.int .i64 sg, .int .i64 st, .slice A m p, .slice B k q, .slice C n r], y]) W := by
  have hp' : tmps[p']?.getD undef = .pointer (some ⟨b, 0, none⟩) := by simpa using hp
  have hq' : tmps[q']?.getD undef = y := by simpa using hq
  have h1 : (loadVar 28 ⟨b, 0, none⟩).run Try.prog W = .ok (.agg #[.int .i64 sg, .int .i64 st, .slice A m p, .slice B k q, .slice C n r]) W := run_loadVar_row W b t 28 (csT sg st A m p B k q C n r) (0, 0) _ L Try.underlying28 rfl info_t
  simp [results, h, hp', hq', asAddr, h1]
theorem res_r2 {fn : Func} {p' q' : Tmp} (h : fn.results = #[.cell p' 32, .tmp q']) (tmps : Array Value) (W : World) (b : Nat) {sg st : Int} {A : Option Addr} {m p : Nat} {B : Option Addr} {k q : Nat} {C : Option Addr} {n r : Nat} {t : TypeId} {y : Value} (hp : tmps.getD p' undef = .pointer (some ⟨b, 0, none⟩)) (hq : tmps.getD q' undef = y) (L : Blk W b t (csT sg st A m p B k q C n r)) :
    (results fn tmps).run Try.prog W = .ok (.tuple #[.agg #[.int .i64 sg, .int .i64 st, .slice A m p, .slice B k q, .slice C n r], y]) W := by
  have hp' : tmps[p']?.getD undef = .pointer (some ⟨b, 0, none⟩) := by simpa using hp
  have hq' : tmps[q']?.getD undef = y := by simpa using hq
  have h1 : (loadVar 32 ⟨b, 0, none⟩).run Try.prog W = .ok (.agg #[.int .i64 sg, .int .i64 st, .slice A m p, .slice B k q, .slice C n r]) W := run_loadVar_row W b t 32 (csT sg st A m p B k q C n r) (0, 0) _ L Try.underlying32 rfl info_r
  simp [results, h, hp', hq', asAddr, h1]

/-- A row of the call's own stays where a cell of an older block is written, or all of it. -/
theorem own_set {W : World} {base b i : Nat} {u : Value} {e : TypeId} {size n : Nat} {v : Value} {xs : List Value} (h : W.ownsRow base e size v n xs) (hb : b < base) : (W.setCell ⟨b, i, none⟩ u).ownsRow base e size v n xs := by
  refine h.kept (grown_set W b i u) ?_
  cases hq : v.ownBlock with
  | none => exact .inl rfl
  | some j => exact .inr (fun e => by injection e with e; have := (h.lt j hq).1; omega)
theorem own_row {W : World} {base b : Nat} {cs : Array Value} {e : TypeId} {size n : Nat} {v : Value} {xs : List Value} (h : W.ownsRow base e size v n xs) (hb : b < base) : (W.setRow b cs).ownsRow base e size v n xs := by
  refine ⟨h.1, ?_⟩
  rcases h.2 with h0 | ⟨g, cap, cur, he, hbg, hg, hc⟩
  · exact .inl h0
  · refine .inr ⟨g, cap, cur, he, hbg, ?_, hc⟩
    rw [← hg]
    unfold World.setRow
    rw [Array.getElem?_modify, if_neg (by omega)]
theorem Rows3.set_ {W : World} {base : Nat} {A : Option Addr} {m p : Nat} {B : Option Addr} {k q : Nat} {C : Option Addr} {n r : Nat} {o l f : List Int} (h : Rows3 base A m p B k q C n r o l f W) {b i : Nat} {u : Value} (hb : b < base) : Rows3 base A m p B k q C n r o l f (W.setCell ⟨b, i, none⟩ u) := ⟨own_set h.a hb, own_set h.b hb, own_set h.c hb, h.ab⟩
theorem Rows3.row {W : World} {base : Nat} {A : Option Addr} {m p : Nat} {B : Option Addr} {k q : Nat} {C : Option Addr} {n r : Nat} {o l f : List Int} (h : Rows3 base A m p B k q C n r o l f W) {b : Nat} {cs : Array Value} (hb : b < base) : Rows3 base A m p B k q C n r o l f (W.setRow b cs) := ⟨own_row h.a hb, own_row h.b hb, own_row h.c hb, h.ab⟩
theorem blk_far {W : World} {b g i : Nat} {t : TypeId} {cs : Array Value} {u : Value} (h : Blk W g t cs) (hb : g ≠ b) : Blk (W.setCell ⟨b, i, none⟩ u) g t cs := (Below.heap_setCell W ⟨b, i, none⟩ u g hb).trans h

/-- What a table with lists of the call's own is. -/
def RowsP (sg st : Int) (m k n : Nat) (o l f : List Int) (w : World) (en : Ending) (w' : World) : Prop :=
  ∃ A p B q C r, en = .returned (.agg #[.int .i64 sg, .int .i64 st, .slice A m p, .slice B k q, .slice C n r]) ∧ Rows3 w.heap.size A m p B k q C n r o l f w' ∧ Below w.heap.size w w'

set_option maxHeartbeats 1000000 in
theorem copied_any (sg st : Int) (A : Option Addr) (m p : Nat) (B : Option Addr) (k q : Nat) (C : Option Addr) (n r : Nat) (o l f : List Int) (w : World) (h : TIn w A m B k C n o l f) (hfa : Full A m) (hfb : Full B k) (hfc : Full C n) (hm : m ≤ 1000) (hk : k ≤ 1000) (hn : n ≤ 1000) :
    Calls Try.prog 46 #[.agg #[.int .i64 sg, .int .i64 st, .slice A m p, .slice B k q, .slice C n r]] w (RowsP sg st m k n o l f w) := by
  have B0 : Below w.heap.size w ((w.alloc (.cells #[.int .i64 sg, .int .i64 st, .slice A m p, .slice B k q, .slice C n r] 28)).alloc (.cells #[.int .i64 0, .int .i64 0, .slice none 0 0, .slice none 0 0, .slice none 0 0] 28)) := Ge.trans (below1 _ _) (below1 _ _)
  have K0 : Blk ((w.alloc (.cells #[.int .i64 sg, .int .i64 st, .slice A m p, .slice B k q, .slice C n r] 28)).alloc (.cells #[.int .i64 0, .int .i64 0, .slice none 0 0, .slice none 0 0, .slice none 0 0] 28)) w.heap.size 28 (csT sg st A m p B k q C n r) := (Blk.new w _ _).later (below1 _ _)
  have Z0 : Blk ((w.alloc (.cells #[.int .i64 sg, .int .i64 st, .slice A m p, .slice B k q, .slice C n r] 28)).alloc (.cells #[.int .i64 0, .int .i64 0, .slice none 0 0, .slice none 0 0, .slice none 0 0] 28)) (w.heap.size + 1) 28 (csT 0 0 none 0 0 none 0 0 none 0 0) := Blk.at_ _ _ _ (by simp)
  have sz0 : ((w.alloc (.cells #[.int .i64 sg, .int .i64 st, .slice A m p, .slice B k q, .slice C n r] 28)).alloc (.cells #[.int .i64 0, .int .i64 0, .slice none 0 0, .slice none 0 0, .slice none 0 0] 28)).heap.size = w.heap.size + 2 := by simp
  have hT := h.later B0
  have C1 := Lib.hid (clone_i A m p o _ hT.a hfa hm)
  go_enter Try.func46, Try.ntmps46
  go_upto_region 1 with fail
  generalize hW : (w.alloc (.cells #[.int .i64 sg, .int .i64 st, .slice A m p, .slice B k q, .slice C n r] 28)).alloc (.cells #[.int .i64 0, .int .i64 0, .slice none 0 0, .slice none 0 0, .slice none 0 0] 28) = W0 at *
  clear hW
  have k2 : W0.cell? ⟨w.heap.size, 2, none⟩ = some (.slice A m p) := K0.cell 2
  have HT := Lib.hid h
  have SZ := Lib.hid sz0
  have HB0 := Lib.hid B0
  clear hT sz0 h B0
  go_wp2_with fail
  refine C1.out.mono ?_
  rintro e' w1 ⟨A1, p1, rfl, o1, b1⟩
  have K1 := K0.later b1
  have Z1 := Z0.later b1
  have c2 : w1.cell? ⟨w.heap.size, 2, none⟩ = some (.slice A m p) := K1.cell 2
  have f2 := K1.frozen 2
  rw [SZ.out] at o1
  have B1 := Ge.trans HB0.out b1
  clear C1 k2 b1 K0 Z0 SZ HB0
  go_upto_region 2 with fail
  have K2 : Blk (w1.setCell ⟨w.heap.size, 2, none⟩ (.slice A1 m p1)) w.heap.size 28 (csT sg st A1 m p1 B k q C n r) := K1.set_ 2 _
  have Z2 : Blk (w1.setCell ⟨w.heap.size, 2, none⟩ (.slice A1 m p1)) (w.heap.size + 1) 28 (csT 0 0 none 0 0 none 0 0 none 0 0) := blk_far Z1 (by omega)
  have B2 : Below w.heap.size w (w1.setCell ⟨w.heap.size, 2, none⟩ (.slice A1 m p1)) := Below.setCell (p := ⟨w.heap.size, 2, none⟩) B1 (Nat.le_refl _) _
  have o2 : (w1.setCell ⟨w.heap.size, 2, none⟩ (.slice A1 m p1)).ownsRow (w.heap.size + 2) 3 1 (.slice A1 m p1) m (iv .i64 o) := own_set o1 (by omega)
  clear c2 f2 K1 Z1 o1 B1
  generalize w1.setCell ⟨w.heap.size, 2, none⟩ (.slice A1 m p1) = W2 at *
  have C2 := Lib.hid (clone_i B k q l W2 (HT.out.later B2).b hfb hk)
  have k3 : W2.cell? ⟨w.heap.size, 3, none⟩ = some (.slice B k q) := K2.cell 3
  go_wp2_with fail
  refine C2.out.mono ?_
  rintro e' w3 ⟨B1, q1, rfl, o3, b3⟩
  have K3 := K2.later b3
  have Z3 := Z2.later b3
  have c3 : w3.cell? ⟨w.heap.size, 3, none⟩ = some (.slice B k q) := K3.cell 3
  have f3 := K3.frozen 3
  have B3 := Ge.trans B2 b3
  have o2' := own_later o2 b3
  have ab : ∀ g, ob A1 = some g → ob B1 ≠ some g := fun g hg hg' => by
    have h1 := (o2.lt g (by rw [ob_eq]; exact hg)).2
    have h2 := (o3.lt g (by rw [ob_eq]; exact hg')).1
    omega
  have o3' := own_base o3 (show w.heap.size + 2 ≤ W2.heap.size from K2.lt |> fun _ => by have := Z2.lt; omega)
  have HAB := Lib.hid ab
  clear C2 k3 b3 K2 Z2 B2 o2 ab o3
  go_upto_region 3 with fail
  have K4 : Blk (w3.setCell ⟨w.heap.size, 3, none⟩ (.slice B1 k q1)) w.heap.size 28 (csT sg st A1 m p1 B1 k q1 C n r) := K3.set_ 3 _
  have Z4 : Blk (w3.setCell ⟨w.heap.size, 3, none⟩ (.slice B1 k q1)) (w.heap.size + 1) 28 (csT 0 0 none 0 0 none 0 0 none 0 0) := blk_far Z3 (by omega)
  have B4 : Below w.heap.size w (w3.setCell ⟨w.heap.size, 3, none⟩ (.slice B1 k q1)) := Below.setCell (p := ⟨w.heap.size, 3, none⟩) B3 (Nat.le_refl _) _
  have o4 : (w3.setCell ⟨w.heap.size, 3, none⟩ (.slice B1 k q1)).ownsRow (w.heap.size + 2) 3 1 (.slice A1 m p1) m (iv .i64 o) := own_set o2' (by omega)
  have r4 : (w3.setCell ⟨w.heap.size, 3, none⟩ (.slice B1 k q1)).ownsRow (w.heap.size + 2) 3 1 (.slice B1 k q1) k (iv .i64 l) := own_set o3' (by omega)
  clear c3 f3 K3 Z3 o2' o3' B3
  generalize w3.setCell ⟨w.heap.size, 3, none⟩ (.slice B1 k q1) = W4 at *
  have C3 := Lib.hid (clone_u C n r f W4 (HT.out.later B4).c hfc hn)
  have k4 : W4.cell? ⟨w.heap.size, 4, none⟩ = some (.slice C n r) := K4.cell 4
  go_wp2_with fail
  refine C3.out.mono ?_
  rintro e' w5 ⟨C1, r1, rfl, o5, b5⟩
  have K5 := K4.later b5
  have Z5 := Z4.later b5
  have c4 : w5.cell? ⟨w.heap.size, 4, none⟩ = some (.slice C n r) := K5.cell 4
  have f4 := K5.frozen 4
  have B5 := Ge.trans B4 b5
  have R5 : Rows3 (w.heap.size + 2) A1 m p1 B1 k q1 C1 n r1 o l f w5 := ⟨own_later o4 b5, own_later r4 b5, own_base o5 (by have := Z4.lt; omega), HAB.out⟩
  clear C3 k4 b5 K4 Z4 B4 o4 r4 o5
  go_upto_region 4 with fail
  have K6 : Blk (w5.setCell ⟨w.heap.size, 4, none⟩ (.slice C1 n r1)) w.heap.size 28 (csT sg st A1 m p1 B1 k q1 C1 n r1) := K5.set_ 4 _
  have Z6 : Blk (w5.setCell ⟨w.heap.size, 4, none⟩ (.slice C1 n r1)) (w.heap.size + 1) 28 (csT 0 0 none 0 0 none 0 0 none 0 0) := blk_far Z5 (by omega)
  have B6 : Below w.heap.size w (w5.setCell ⟨w.heap.size, 4, none⟩ (.slice C1 n r1)) := Below.setCell (p := ⟨w.heap.size, 4, none⟩) B5 (Nat.le_refl _) _
  have R6 : Rows3 (w.heap.size + 2) A1 m p1 B1 k q1 C1 n r1 o l f (w5.setCell ⟨w.heap.size, 4, none⟩ (.slice C1 n r1)) := R5.set_ (by omega)
  clear c4 f4 K5 Z5 B5 R5
  generalize w5.setCell ⟨w.heap.size, 4, none⟩ (.slice C1 n r1) = W6 at *
  have HK := Lib.hid K6
  have HZ := Lib.hid Z6
  clear K6 Z6
  go_wp2_with (first
    | (with_reducible refine load_t rfl (.tmp 1) rfl w.heap.size rfl HK.out ?_)
    | (with_reducible refine store_t rfl (.tmp 2) (.tmp 15) rfl (w.heap.size + 1) rfl rfl HZ.out ?_))
  exact bodyPost_ret (res_t1 rfl _ _ (w.heap.size + 1) rfl (HZ.out.row _)) rfl ⟨A1, p1, B1, q1, C1, r1, rfl, (R6.row (by omega)).wide (by omega), below_row B6 (by omega) _⟩

set_option maxHeartbeats 2000000 in
theorem opened_any (sg st : Int) (A : Option Addr) (m p : Nat) (B : Option Addr) (k q : Nat) (C : Option Addr) (n r : Nat) (o l f : List Int) (s first : Int) (w : World) (h : TIn w A m B k C n o l f) (hfa : Full A m) (hfb : Full B k) (hfc : Full C n) (hm : m < 1000) (hk : k < 1000) (hn : n < 1000) :
    Calls Try.prog 33 #[.agg #[.int .i64 sg, .int .i64 st, .slice A m p, .slice B k q, .slice C n r], .int .i64 s, .int .u64 first] w (RowsP sg st (m + 1) (k + 1) (n + 1) (o ++ [s]) (l ++ [0]) (f ++ [first]) w) := by
  have B0 : Below w.heap.size w ((w.alloc (.cells #[.int .i64 sg, .int .i64 st, .slice A m p, .slice B k q, .slice C n r] 28)).alloc (.cells #[.int .i64 0, .int .i64 0, .slice none 0 0, .slice none 0 0, .slice none 0 0] 28)) := Ge.trans (below1 _ _) (below1 _ _)
  have K0 : Blk ((w.alloc (.cells #[.int .i64 sg, .int .i64 st, .slice A m p, .slice B k q, .slice C n r] 28)).alloc (.cells #[.int .i64 0, .int .i64 0, .slice none 0 0, .slice none 0 0, .slice none 0 0] 28)) w.heap.size 28 (csT sg st A m p B k q C n r) := (Blk.new w _ _).later (below1 _ _)
  have Z0 : Blk ((w.alloc (.cells #[.int .i64 sg, .int .i64 st, .slice A m p, .slice B k q, .slice C n r] 28)).alloc (.cells #[.int .i64 0, .int .i64 0, .slice none 0 0, .slice none 0 0, .slice none 0 0] 28)) (w.heap.size + 1) 28 (csT 0 0 none 0 0 none 0 0 none 0 0) := Blk.at_ _ _ _ (by simp)
  have sz0 : ((w.alloc (.cells #[.int .i64 sg, .int .i64 st, .slice A m p, .slice B k q, .slice C n r] 28)).alloc (.cells #[.int .i64 0, .int .i64 0, .slice none 0 0, .slice none 0 0, .slice none 0 0] 28)).heap.size = w.heap.size + 2 := by simp
  have hT := h.later B0
  have C1 := Lib.hid (copied_any sg st A m p B k q C n r o l f _ hT hfa hfb hfc (Nat.le_of_lt hm) (Nat.le_of_lt hk) (Nat.le_of_lt hn))
  go_enter Try.func33, Try.ntmps33
  go_upto_region 1 with fail
  generalize hW : (w.alloc (.cells #[.int .i64 sg, .int .i64 st, .slice A m p, .slice B k q, .slice C n r] 28)).alloc (.cells #[.int .i64 0, .int .i64 0, .slice none 0 0, .slice none 0 0, .slice none 0 0] 28) = W0 at *
  clear hW h hT hfa hfb hfc
  have HK := Lib.hid K0
  have SZ := Lib.hid sz0
  have HB := Lib.hid B0
  have HZ := Lib.hid Z0
  clear K0 sz0 B0 Z0
  go_wp2_with (with_reducible refine load_t rfl (.tmp 3) rfl w.heap.size rfl HK.out ?_)
  refine C1.out.mono ?_
  rintro e' w1 ⟨A1, p1, B1, q1, C1', r1, rfl, R1, b1⟩
  rw [SZ.out] at R1
  have K1 := Lib.hid (HK.out.later b1)
  have Z1 := HZ.out.later b1
  have B1' := Ge.trans HB.out b1
  have sz1 : w.heap.size + 2 ≤ w1.heap.size := by have := b1.size; rw [SZ.out] at this; exact this
  clear C1 HK HZ HB SZ b1
  go_upto_region 2 with (with_reducible refine store_t rfl (.tmp 3) (.tmp 8) rfl w.heap.size rfl rfl K1.out ?_)
  have O2 : Own3 28 (w.heap.size + 2) w.heap.size sg st A1 m p1 B1 k q1 C1' n r1 o l f (w1.setRow w.heap.size (csT sg st A1 m p1 B1 k q1 C1' n r1)) := ⟨K1.out.row _, by omega, R1.row (by omega), by rw [row_size]; exact sz1⟩
  have Z2 : Blk (w1.setRow w.heap.size (csT sg st A1 m p1 B1 k q1 C1' n r1)) (w.heap.size + 1) 28 (csT 0 0 none 0 0 none 0 0 none 0 0) := Z1.far (by omega) _
  have B2 : Below w.heap.size w (w1.setRow w.heap.size (csT sg st A1 m p1 B1 k q1 C1' n r1)) := below_row B1' (Nat.le_refl _) _
  clear K1 Z1 B1' sz1 R1
  generalize w1.setRow w.heap.size (csT sg st A1 m p1 B1 k q1 C1' n r1) = W2 at *
  have b2 := below1 W2 (.cells #[.int .i64 s] 3)
  obtain ⟨gA, pA, Y2, run2, c2, f2, O4, bl2, kl2⟩ := (O2.later b2).push_a (nb := W2.heap.size) (x := s) ((Blk.new W2 3 #[.int .i64 s]).cell 0) (by omega)
  have k2 : W2.cell? ⟨w.heap.size, 2, none⟩ = some (.slice A1 m p1) := O2.z.cell 2
  have Z4 := kl2 _ _ _ (Z2.later b2) (by omega) (by omega)
  have B4 := bl2 w (Ge.trans B2 b2) (Nat.le_refl _)
  have HR2 := Lib.hid run2
  clear run2 bl2 kl2 Z2 B2 O2 b2
  go_upto_region 3 with (at_builtin; refine list_append_run rfl (.tmp 10) (.tmp 12) 25 rfl _ _ rfl rfl HR2.out ?_)
  clear c2 f2 k2 HR2
  generalize Y2.setCell ⟨w.heap.size, 2, none⟩ (.slice (some ⟨gA, 0, none⟩) (m + 1) pA) = W4 at *
  have b4 := below1 W4 (.cells #[.int .i64 0] 3)
  obtain ⟨gB, pB, Y4, run4, c4, f4, O6, bl4, kl4⟩ := (O4.later b4).push_b (nb := W4.heap.size) (x := 0) ((Blk.new W4 3 #[.int .i64 0]).cell 0) (by omega)
  have k4 : W4.cell? ⟨w.heap.size, 3, none⟩ = some (.slice B1 k q1) := O4.z.cell 3
  have Z6 := kl4 _ _ _ (Z4.later b4) (by omega) (by omega)
  have B6 := bl4 w (Ge.trans B4 b4) (Nat.le_refl _)
  have HR4 := Lib.hid run4
  clear run4 bl4 kl4 Z4 B4 O4 b4
  go_upto_region 4 with (at_builtin; refine list_append_run rfl (.tmp 16) (.tmp 17) 25 rfl _ _ rfl rfl HR4.out ?_)
  clear c4 f4 k4 HR4
  generalize Y4.setCell ⟨w.heap.size, 3, none⟩ (.slice (some ⟨gB, 0, none⟩) (k + 1) pB) = W6 at *
  have b6 := below1 W6 (.cells #[.int .u64 first] 23)
  obtain ⟨gC, pC, Y6, run6, c6, f6, O8, bl6, kl6⟩ := (O6.later b6).push_c (nb := W6.heap.size) (x := first) ((Blk.new W6 23 #[.int .u64 first]).cell 0) (by omega)
  have k6 : W6.cell? ⟨w.heap.size, 4, none⟩ = some (.slice C1' n r1) := O6.z.cell 4
  have Z8 := kl6 _ _ _ (Z6.later b6) (by omega) (by omega)
  have B8 := bl6 w (Ge.trans B6 b6) (Nat.le_refl _)
  have HR6 := Lib.hid run6
  clear run6 bl6 kl6 Z6 B6 O6 b6
  go_upto_region 5 with (at_builtin; refine list_append_run rfl (.tmp 21) (.tmp 23) 26 rfl _ _ rfl rfl HR6.out ?_)
  clear c6 f6 k6 HR6
  generalize Y6.setCell ⟨w.heap.size, 4, none⟩ (.slice (some ⟨gC, 0, none⟩) (n + 1) pC) = W8 at *
  have HK := Lib.hid O8.z
  have HZ := Lib.hid Z8
  clear Z8
  go_wp2_with (first
    | (with_reducible refine load_t rfl (.tmp 3) rfl w.heap.size rfl HK.out ?_)
    | (with_reducible refine store_t rfl (.tmp 6) (.tmp 26) rfl (w.heap.size + 1) rfl rfl HZ.out ?_))
  exact bodyPost_ret (res_t1 rfl _ _ (w.heap.size + 1) rfl (HZ.out.row _)) rfl ⟨_, pA, _, pB, _, pC, rfl, (O8.s.row (by omega)).wide (by omega), below_row B8 (by omega) _⟩
end Go.Proofs.Ytpgbbbgblgkokaa
