/- Contract of ckpt's read, for every text: the checkpoint whose sector it is, or the panic; no memory that was there is changed. -/
import Derived.Test.YtdnkhjikfdalbaaCpD
import Derived.Test.YtdnkhjikfdalbaaFree
import Derived.Test.YtdnkhjikfdalbaaFreeC
namespace Go.Proofs.Ytdnkhjikfdalbaa
open Go.RowKit Go.Lib Wd Cr
set_option linter.unusedVariables false

theorem len8 {l : List UInt8} (h : l.length = 8) : ∃ a b c d e f g i, l = [a, b, c, d, e, f, g, i] := by
  match l, h with
  | [a, b, c, d, e, f, g, i], _ => exact ⟨a, b, c, d, e, f, g, i, rfl⟩
theorem u8_iff (a b : UInt8) : ((a.toNat : Int) = (b.toNat : Int)) = (a = b) := by
  rw [← UInt8.toNat_inj]
  exact propext ⟨fun h => by omega, fun h => by omega⟩
theorem eql8 (a b : List UInt8) (ha : a.length = 8) (hb : b.length = 8) (w : World) : (binOp BinOp.eql 61 (.agg (rowV a)) (.agg (rowV b))).run Try.prog w = .ok (.bool (decide (a = b))) w := by
  obtain ⟨a0, a1, a2, a3, a4, a5, a6, a7, rfl⟩ := len8 ha
  obtain ⟨b0, b1, b2, b3, b4, b5, b6, b7, rfl⟩ := len8 hb
  have u3 := Try.underlying5
  have a3' := Try.isAgg5
  have z3 := Try.sizeOf5
  simp [rowV, byteCells, go_sem]
  rw [show (10000 : Nat) = 9999 + 1 from rfl, Op.equalIn]
  simp only [Sem.run_bind, run_underlying Try.underlying61, Result.andThen_ok]
  simp only [Std.Legacy.Range.forIn_eq_forIn_range', Std.Legacy.Range.size, Nat.sub_zero, Nat.add_sub_cancel, Nat.div_one, List.range'_succ, List.range'_zero, List.forIn_cons, List.forIn_nil]
  go_simp
  simp only [u8_iff]
  rcases Decidable.em (a0 = b0) with h0 | h0
  case inr => simp [h0]
  rcases Decidable.em (a1 = b1) with h1 | h1
  case inr => simp [h1]
  rcases Decidable.em (a2 = b2) with h2 | h2
  case inr => simp [h2]
  rcases Decidable.em (a3 = b3) with h3 | h3
  case inr => simp [h3]
  rcases Decidable.em (a4 = b4) with h4 | h4
  case inr => simp [h4]
  rcases Decidable.em (a5 = b5) with h5 | h5
  case inr => simp [h5]
  rcases Decidable.em (a6 = b6) with h6 | h6
  case inr => simp [h6]
  rcases Decidable.em (a7 = b7) with h7 | h7
  case inr => simp [h7]
  simp [h0, h1, h2, h3, h4, h5, h6, h7]

theorem rowB_at (l : List UInt8) (i : Nat) (hl : l.length = 128) (hi : i < 128) : (rowB l 128)[i]? = some (.int .u8 (byteAt l i : Nat)) := by
  unfold rowB
  rw [List.take_of_length_le (by omega), Nat.sub_self, List.replicate_zero, List.append_nil]
  simp [byteCells, byteAt, List.getElem?_eq_getElem (show i < l.length by omega)]
/-- n bytes of the sector, from place off on. -/
def part (l : List UInt8) (off n : Nat) : List UInt8 := (l.drop off).take n
theorem part_len (l : List UInt8) (off n : Nat) (hl : l.length = 128) (h : off + n ≤ 128) : (part l off n).length = n := by
  unfold part; rw [List.length_take, List.length_drop]; omega
theorem part_at (l : List UInt8) (off n i : Nat) (h : i < n) : byteAt (part l off n) i = byteAt l (off + i) := by
  unfold part; rw [byteAt_take _ _ _ h, byteAt_drop]
theorem range_part {w : World} {g : Nat} {l : List UInt8} (hg : Blk w g 69 (rowB l 128)) (hl : l.length = 128) (off n : Nat) (h : off + n ≤ 128) : w.rangeAt g off (byteCells (part l off n)) := by
  refine hg.range off _ (fun j v hv => ?_)
  have hj : j < n := by
    have := (List.getElem?_eq_some_iff.1 hv).1
    rw [byteCells_length, part_len l off n hl h] at this
    exact this
  rw [rowB_at l _ hl (by omega), ← part_at l off n j hj]
  have : (rowV (part l off n))[j]? = some v := by unfold rowV; simpa using hv
  rw [rowV_at _ _ (by rw [part_len l off n hl h]; exact hj)] at this
  exact this
theorem info8 : (Try.prog.info? 61).map (·.size) = some 8 := by kernel_rfl
theorem info87 : (Try.prog.info? 67).map (·.size) = some 87 := by kernel_rfl
section
variable {ops : Array Oper} {rest : List Oper} {o : Oper} {a : Act} {w : World} {Q : Exit → Act → World → Prop}
theorem load_8 (hgd : o.guard = none) (x : Operand) (ho : o.op = .load 61 x) (g off : Nat) (hx : a.eval x = .pointer (some ⟨g, off, none⟩)) (l : List UInt8) (hl : l.length = 128) (hoff : off + 8 ≤ 128) (hg : Blk w g 69 (rowB l 128))
    (h : wpList Try.prog ops Q rest (a.put o.dst (.agg (rowV (part l off 8)))) w) : wpList Try.prog ops Q (o :: rest) a w :=
  wpList_load_mid hgd _ x ho g off hx (byteCells (part l off 8)) _ (range_part hg hl off 8 hoff) Try.underlying61 rfl (by rw [byteCells_length, part_len l off 8 hl hoff]; exact info8) h
theorem load_87 (hgd : o.guard = none) (x : Operand) (ho : o.op = .load 67 x) (g off : Nat) (hx : a.eval x = .pointer (some ⟨g, off, none⟩)) (l : List UInt8) (hl : l.length = 128) (hoff : off + 87 ≤ 128) (hg : Blk w g 69 (rowB l 128))
    (h : wpList Try.prog ops Q rest (a.put o.dst (.agg (rowV (part l off 87)))) w) : wpList Try.prog ops Q (o :: rest) a w :=
  wpList_load_mid hgd _ x ho g off hx (byteCells (part l off 87)) _ (range_part hg hl off 87 hoff) Try.underlying67 rfl (by rw [byteCells_length, part_len l off 87 hl hoff]; exact info87) h
end
/-- The bytes of a field, as a string. -/
theorem conv_part {w : World} {g : Nat} {l : List UInt8} (hg : Blk w g 69 (rowB l 128)) (hl : l.length = 128) (off n : Nat) (h : off + n ≤ 128) (X : ByteArray) (hX : X.data.toList = part l off n) :
    (convert 57 9 (.slice (some ⟨g, off, none⟩) n n)).run Try.prog w = .ok (.string X) w := by
  have := run_convert_bytes_arg (P := Try.prog) w 57 5 Try.underlying57 Try.underlying5 g off n n ((part l off n).map fun b => ((b.toNat : Nat) : Int)) (by rw [List.length_map, part_len l off n hl h]) (fun i hi => by
    rw [hg.cell, rowB_at l _ hl (by omega), ← part_at l off n i hi]
    have hi2 : i < (part l off n).length := by rw [part_len l off n hl h]; exact hi
    simp [byteAt, List.getElem?_eq_getElem hi2]) 9 Try.underlying9
  rw [this]
  congr 2
  unfold strOfNums
  rw [List.map_map]
  have e : ((part l off n).map ((fun x : Int => UInt8.ofNat x.toNat) ∘ fun b : UInt8 => ((b.toNat : Nat) : Int))) = part l off n := by
    conv => rhs; rw [← List.map_id (part l off n)]
    apply List.map_congr_left
    intro b _
    simp
  rw [e, ← hX]

/-- The value is that checkpoint. -/
def IsChk (W : World) (x : Value) (c : Chk) : Prop := ∃ (A : Option Addr) (m p : Nat) (B : Option Addr) (k q : Nat), x = .agg #[.int .u64 c.g, .int .u32 c.e, .int .u64 c.l, .int .u64 c.v, .slice A m p, .slice B k q] ∧ Sl W A m c.o ∧ Sl W B k c.n
theorem IsChk.later {W W' : World} {x : Value} {c : Chk} (h : IsChk W x c) (hb : Below W.heap.size W W') : IsChk W' x c := by
  obtain ⟨A, m, p, B, k, q, rfl, h1, h2⟩ := h
  exact ⟨A, m, p, B, k, q, rfl, h1.later hb, h2.later hb⟩
theorem zero_is (W : World) : IsChk W (.agg #[.int .u64 0, .int .u32 0, .int .u64 0, .int .u64 0, .slice none 0 0, .slice none 0 0]) zeroC := ⟨none, 0, 0, none, 0, 0, rfl, Sl.nil W, Sl.nil W⟩

/-- A checkpoint's cells. -/
def csC (g e l v : Int) (A : Option Addr) (m p : Nat) (B : Option Addr) (k q : Nat) : Array Value := #[.int .u64 g, .int .u32 e, .int .u64 l, .int .u64 v, .slice A m p, .slice B k q]
theorem csC_size (g e l v : Int) (A : Option Addr) (m p : Nat) (B : Option Addr) (k q : Nat) : (csC g e l v A m p B k q).size = 6 := rfl
theorem csC_one (g e l v : Int) (A : Option Addr) (m p : Nat) (B : Option Addr) (k q : Nat) : (csC g e l v A m p B k q).all (·.oneCell') = true := by simp [csC, Value.oneCell']
theorem info_c : (Try.prog.info? 26).map (·.size) = some 6 := by kernel_rfl
section
variable {ops : Array Oper} {rest : List Oper} {o : Oper} {a : Act} {w : World} {Q : Exit → Act → World → Prop}
theorem load_c (hgd : o.guard = none) (x : Operand) (ho : o.op = .load 26 x) (b : Nat) (hx : a.eval x = .pointer (some ⟨b, 0, none⟩)) {g e l v : Int} {A : Option Addr} {m p : Nat} {B : Option Addr} {k q : Nat} {t : TypeId} (hg : Blk w b t (csC g e l v A m p B k q))
    (h : wpList Try.prog ops Q rest (a.put o.dst (.agg #[.int .u64 g, .int .u32 e, .int .u64 l, .int .u64 v, .slice A m p, .slice B k q])) w) : wpList Try.prog ops Q (o :: rest) a w :=
  wpList_load_row hgd _ x ho b hx _ (csC g e l v A m p B k q) (0, 0) _ hg Try.underlying26 rfl info_c h
theorem store_c (hgd : o.guard = none) (x y : Operand) (ho : o.op = .store 26 x y) (b : Nat) (hx : a.eval x = .pointer (some ⟨b, 0, none⟩)) {g e l v : Int} {A : Option Addr} {m p : Nat} {B : Option Addr} {k q : Nat} (hy : a.eval y = .agg #[.int .u64 g, .int .u32 e, .int .u64 l, .int .u64 v, .slice A m p, .slice B k q]) {g0 e0 l0 v0 : Int} {A0 : Option Addr} {m0 p0 : Nat} {B0 : Option Addr} {k0 q0 : Nat} {t : TypeId} (hg : Blk w b t (csC g0 e0 l0 v0 A0 m0 p0 B0 k0 q0))
    (h : wpList Try.prog ops Q rest (a.put o.dst undef) (w.setRow b (csC g e l v A m p B k q))) : wpList Try.prog ops Q (o :: rest) a w :=
  wpList_store_row hgd _ x y ho b (csC g e l v A m p B k q) hx hy _ _ hg info_c rfl (csC_one g e l v A m p B k q) h
end
theorem blk_lies {W : World} {b : Nat} {t : TypeId} {g e l v : Int} {A : Option Addr} {m p : Nat} {B : Option Addr} {k q : Nat} (h : Blk W b t (csC g e l v A m p B k q)) : LiesC W b g e l v A m p B k q :=
  ⟨h.lt, h.cell 0, h.cell 1, h.cell 2, h.cell 3, h.cell 4, h.cell 5⟩
theorem res_c1 {fn : Func} {p' : Tmp} (h : fn.results = #[.cell p' 26]) (tmps : Array Value) (W : World) (b : Nat) {g e l v : Int} {A : Option Addr} {m p : Nat} {B : Option Addr} {k q : Nat} {t : TypeId} (hp : tmps.getD p' undef = .pointer (some ⟨b, 0, none⟩)) (L : Blk W b t (csC g e l v A m p B k q)) :
    (results fn tmps).run Try.prog W = .ok (.agg #[.int .u64 g, .int .u32 e, .int .u64 l, .int .u64 v, .slice A m p, .slice B k q]) W :=
  results_cell_row h tmps W b t (csC g e l v A m p B k q) (0, 0) _ hp L Try.underlying26 rfl info_c

theorem slot_is {xs : Array Value} {n : Nat} {v : Value} (h : xs.getD n undef = v) : xs[n]?.getD undef = v := by simpa using h
theorem arrF59 {cs : Array Value} (h : cs.size = 59) : ∃ y : Nat → Value, (∀ i, cs.getD i undef = y i) ∧ cs = #[y 0, y 1, y 2, y 3, y 4, y 5, y 6, y 7, y 8, y 9, y 10, y 11, y 12, y 13, y 14, y 15, y 16, y 17, y 18, y 19, y 20, y 21, y 22, y 23, y 24, y 25, y 26, y 27, y 28, y 29, y 30, y 31, y 32, y 33, y 34, y 35, y 36, y 37, y 38, y 39, y 40, y 41, y 42, y 43, y 44, y 45, y 46, y 47, y 48, y 49, y 50, y 51, y 52, y 53, y 54, y 55, y 56, y 57, y 58] := by
  refine ⟨fun i => cs.getD i undef, fun _ => rfl, ?_⟩
  have e : cs = ((List.range 59).map fun i => cs.getD i undef).toArray := by
    apply Array.ext
    · simp [h]
    · intro i h1 h2
      simp [h1]
  exact e.trans rfl

/-- While read goes on: old memory as it was, the result's block zero, the fields' block the bytes. -/
structure RdC (w : World) (fb : Nat) (l : List UInt8) (W : World) : Prop where
  b : Below w.heap.size w W
  z : Blk W w.heap.size 26 (csC 0 0 0 0 none 0 0 none 0 0)
  f : Blk W fb 69 (rowB l 128)
theorem RdC.later {w W W' : World} {fb : Nat} {l : List UInt8} (h : RdC w fb l W) (hb : Below W.heap.size W W') : RdC w fb l W' :=
  ⟨Wd.Ge.trans h.b hb, h.z.later hb, h.f.later hb⟩

def wl (vs : List (Option Value)) : List (World → Value → Prop) := vs.map fun o _ u => match o with | none => True | some v => u = v
theorem wl_any {vs : List (Option Value)} {j : Nat} {W W' : World} {u : Value} (h : Free.V (wl vs) j W u) : Free.V (wl vs) j W' u := by
  unfold Free.V wl at *
  simp only [List.getD_eq_getElem?_getD, List.getElem?_map] at *
  cases hv : vs[j]? with
  | none => rw [hv] at h; exact trivial
  | some o => rw [hv] at h; exact h
theorem cell_row_far (W : World) {b b' : Nat} (h : b ≠ b') (j : Nat) (ds : Array Value) : (W.setRow b ds).cell? ⟨b', j, none⟩ = W.cell? ⟨b', j, none⟩ := by
  simp only [World.cell?, World.setRow, Array.getElem?_modify, if_neg h]
theorem Sl.far {W : World} {bo n b : Nat} {o : List Int} (h : Sl W (some ⟨bo, 0, none⟩) n o) (hb : b ≠ bo) (ds : Array Value) : Sl (W.setRow b ds) (some ⟨bo, 0, none⟩) n o := by
  refine ⟨h.len, fun hn => ?_⟩
  obtain ⟨b', o', e, hlt, hc⟩ := h.cells hn
  injection e with e
  injection e with e1 e2
  subst e1 e2
  refine ⟨bo, 0, rfl, by rw [row_size]; exact hlt, fun j hj => ?_⟩
  exact (cell_row_far W hb (0 + j) ds).trans (hc j hj)
theorem Sl.farA {W : World} {A : Option Addr} {n b : Nat} {o : List Int} (h : Sl W A n o) (hb : ∀ a, A = some a → b ≠ a.block) (ds : Array Value) : Sl (W.setRow b ds) A n o := by
  refine ⟨h.len, fun hn => ?_⟩
  obtain ⟨b', o', e, hlt, hc⟩ := h.cells hn
  refine ⟨b', o', e, by rw [row_size]; exact hlt, fun j hj => ?_⟩
  exact (cell_row_far W (hb _ e) (o' + j) ds).trans (hc j hj)
theorem Sl.setA {W : World} {A : Option Addr} {n b : Nat} {o : List Int} (h : Sl W A n o) (hb : ∀ a, A = some a → b ≠ a.block) (i : Nat) (u : Value) : Sl (W.setCell ⟨b, i, none⟩ u) A n o := by
  refine ⟨h.len, fun hn => ?_⟩
  obtain ⟨b', o', e, hlt, hc⟩ := h.cells hn
  refine ⟨b', o', e, by simpa using hlt, fun j hj => ?_⟩
  rw [World.cell?_setCell_other _ _ _ _ (by intro hh; injection hh with hh _; exact hb _ e hh)]
  exact hc j hj
/-- The value is that checkpoint; its lists lie at block n or behind. -/
def NewChk (n : Nat) (W : World) (x : Value) (c : Chk) : Prop := ∃ (A : Option Addr) (m p : Nat) (B : Option Addr) (k q : Nat), x = .agg #[.int .u64 c.g, .int .u32 c.e, .int .u64 c.l, .int .u64 c.v, .slice A m p, .slice B k q] ∧ Sl W A m c.o ∧ Sl W B k c.n ∧ (∀ a, A = some a → n ≤ a.block) ∧ (∀ a, B = some a → n ≤ a.block)
section
variable {n : Nat} {W W' : World} {x : Value} {c : Chk}
theorem NewChk.is (h : NewChk n W x c) : IsChk W x c := by
  obtain ⟨A, m, p, B, k, q, e, h1, h2, _⟩ := h
  exact ⟨A, m, p, B, k, q, e, h1, h2⟩
theorem NewChk.later (h : NewChk n W x c) (hb : Below W.heap.size W W') : NewChk n W' x c := by
  obtain ⟨A, m, p, B, k, q, e, h1, h2, h3⟩ := h
  exact ⟨A, m, p, B, k, q, e, h1.later hb, h2.later hb, h3⟩
theorem NewChk.mono {n' : Nat} (h : NewChk n W x c) (hn : n' ≤ n) : NewChk n' W x c := by
  obtain ⟨A, m, p, B, k, q, e, h1, h2, h3, h4⟩ := h
  exact ⟨A, m, p, B, k, q, e, h1, h2, fun a ha => Nat.le_trans hn (h3 a ha), fun a ha => Nat.le_trans hn (h4 a ha)⟩
theorem NewChk.row (h : NewChk n W x c) {b : Nat} (hb : b < n) (ds : Array Value) : NewChk n (W.setRow b ds) x c := by
  obtain ⟨A, m, p, B, k, q, e, h1, h2, h3, h4⟩ := h
  exact ⟨A, m, p, B, k, q, e, h1.farA (fun a ha => by have := h3 a ha; omega) ds, h2.farA (fun a ha => by have := h4 a ha; omega) ds, h3, h4⟩
theorem NewChk.set (h : NewChk n W x c) {b : Nat} (hb : b < n) (i : Nat) (u : Value) : NewChk n (W.setCell ⟨b, i, none⟩ u) x c := by
  obtain ⟨A, m, p, B, k, q, e, h1, h2, h3, h4⟩ := h
  exact ⟨A, m, p, B, k, q, e, h1.setA (fun a ha => by have := h3 a ha; omega) i u, h2.setA (fun a ha => by have := h4 a ha; omega) i u, h3, h4⟩
end
theorem zero_new (n : Nat) (W : World) : NewChk n W (.agg #[.int .u64 0, .int .u32 0, .int .u64 0, .int .u64 0, .slice none 0 0, .slice none 0 0]) zeroC := ⟨none, 0, 0, none, 0, 0, rfl, Sl.nil W, Sl.nil W, (fun _ h => by cases h), (fun _ h => by cases h)⟩

/-- While the checkpoint is put together, in whatever order. -/
structure R5 (w : World) (fb H bo bl n : Nat) (l : List UInt8) (o nn : List Int) (vs : Array Value) (listed : Array Bool) (a : Act) (W : World) : Prop where
  r : RdC w fb l W
  hH : H ≤ W.heap.size
  sa : Sl W (some ⟨bo, 0, none⟩) n o
  sb : Sl W (some ⟨bl, 0, none⟩) n nn
  ord : listed.getD 21 false = true → listed.getD 20 false = true
  blk : listed.getD 20 false = true → ∃ b, a.tmps.getD 6 undef = .pointer (some ⟨b, 0, none⟩) ∧ H ≤ b ∧ Blk W b 26 (if listed.getD 21 false = true then vs else csC 0 0 0 0 none 0 0 none 0 0)
section
variable {w : World} {fb H bo bl n : Nat} {l : List UInt8} {o nn : List Int} {vs : Array Value} {listed : Array Bool} {a : Act} {W W' : World}
theorem R5.step (h : R5 w fb H bo bl n l o nn vs listed a W) (i d : Nat) (v : Value) (hi : i ≠ 20) (hi' : i ≠ 21) (hd : d ≠ 6) (hb : Below W.heap.size W W') : R5 w fb H bo bl n l o nn vs (listed.setIfInBounds i true) (a.put (some d) v) W' := by
  have e20 : (listed.setIfInBounds i true).getD 20 false = listed.getD 20 false := getD_set_ne false hi
  have e21 : (listed.setIfInBounds i true).getD 21 false = listed.getD 21 false := getD_set_ne false hi'
  refine ⟨h.r.later hb, Nat.le_trans h.hH hb.size, h.sa.later hb, h.sb.later hb, by rw [e20, e21]; exact h.ord, ?_⟩
  rw [e20, e21]
  intro hl
  obtain ⟨b, h1, h2, h3⟩ := h.blk hl
  exact ⟨b, (Free.slot_ne v hd).trans h1, h2, h3.later hb⟩
theorem R5.alloc (h : R5 w fb H bo bl n l o nn vs listed a W) (hsz : listed.size = 22) (ha : 6 < a.tmps.size) (hno : listed.getD 20 true = false) : R5 w fb H bo bl n l o nn vs (listed.setIfInBounds 20 true) (a.put (some 6) (.pointer (some ⟨W.heap.size, 0, none⟩))) (W.alloc (.cells (csC 0 0 0 0 none 0 0 none 0 0) 26)) := by
  have e21 : (listed.setIfInBounds 20 true).getD 21 false = listed.getD 21 false := getD_set_ne false (by omega)
  have e20 : (listed.setIfInBounds 20 true).getD 20 false = true := by simp [hsz]
  have f20 : listed.getD 20 false = false := by
    simp only [Array.getD_eq_getD_getElem?] at hno ⊢
    have : listed[20]? = some (listed[20]'(by omega)) := Array.getElem?_eq_getElem (by omega)
    rw [this] at hno ⊢
    exact hno
  have f21 : ¬ listed.getD 21 false = true := fun hh => by have := h.ord hh; rw [f20] at this; exact absurd this (by decide)
  have hb := below1 W (.cells (csC 0 0 0 0 none 0 0 none 0 0) 26)
  refine ⟨h.r.later hb, Nat.le_trans h.hH hb.size, h.sa.later hb, h.sb.later hb, fun _ => e20, fun _ => ⟨W.heap.size, ?_, h.hH, ?_⟩⟩
  · unfold Act.put
    simp [ha]
  · rw [e21, if_neg f21]
    exact Blk.new _ _ _
theorem R5.store (h : R5 w fb H bo bl n l o nn vs listed a W) (hsz : listed.size = 22) (hl : listed.getD 20 false = true) (q1 : w.heap.size < H) (q2 : fb < H) (q3 : bo < H) (q4 : bl < H) {b : Nat} (hs : a.tmps.getD 6 undef = .pointer (some ⟨b, 0, none⟩)) :
    R5 w fb H bo bl n l o nn vs (listed.setIfInBounds 21 true) (a.put none undef) (W.setRow b vs) := by
  obtain ⟨b', h1, h2, h3⟩ := h.blk hl
  have eb : b' = b := by rw [hs] at h1; injection h1 with h1; injection h1 with h1; injection h1 with h1; exact h1.symm
  subst eb
  have e21 : (listed.setIfInBounds 21 true).getD 21 false = true := by simp [hsz]
  have e20 : (listed.setIfInBounds 21 true).getD 20 false = listed.getD 20 false := getD_set_ne false (by omega)
  refine ⟨⟨below_row h.r.b (by omega) _, h.r.z.far (by omega) _, h.r.f.far (by omega) _⟩, by rw [row_size]; exact h.hH, h.sa.far (by omega) _, h.sb.far (by omega) _, fun _ => by rw [e20]; exact hl, fun _ => ⟨b', hs, h2, ?_⟩⟩
  rw [e21, if_pos rfl]
  exact h3.row _
end
theorem cut_eq (l : List UInt8) (h : byteAt l 28 ≤ 16) (g e a v : Int) (hg : ((getN (part l 0 8) : Nat) : Int) = g) (he : ((getN (part l 8 4) : Nat) : Int) = e) (ha : ((getN (part l 12 8) : Nat) : Int) = a) (hv : ((getN (part l 20 8) : Nat) : Int) = v) :
    cutC l = ⟨g, e, a, v, evens (part l 29 87) (byteAt l 28), odds (part l 29 87) (byteAt l 28)⟩ := by
  unfold cutC
  have e1 : evens (part l 29 87) (byteAt l 28) = (List.range (byteAt l 28)).map fun i => ((byteAt l (29 + 2 * i) : Nat) : Int) := by
    unfold evens
    apply List.map_congr_left
    intro i hi
    rw [List.mem_range] at hi
    rw [part_at l 29 87 (2 * i) (by omega)]
  have e2 : odds (part l 29 87) (byteAt l 28) = (List.range (byteAt l 28)).map fun i => ((byteAt l (30 + 2 * i) : Nat) : Int) := by
    unfold odds
    apply List.map_congr_left
    intro i hi
    rw [List.mem_range] at hi
    rw [part_at l 29 87 (2 * i + 1) (by omega), show 29 + (2 * i + 1) = 30 + 2 * i by omega]
  rw [e1, e2, ← hg, ← he, ← ha, ← hv]
  rfl

/-- What read tells. -/
def ReadP (s : ByteArray) (w : World) (e : Ending) (w' : World) : Prop :=
  Below w.heap.size w w' ∧ ((isSec s.data.toList = true ∧ ∃ x, e = .returned x ∧ NewChk w.heap.size w' x (cutC s.data.toList)) ∨ (isSec s.data.toList = false ∧ e = .panicked bad))
theorem read_not {s : ByteArray} {w w' : World} (hb : Below w.heap.size w w') (h : ¬ Reads s.data.toList) : ReadP s w (.panicked bad) w' := by
  refine ⟨hb, .inr ⟨?_, rfl⟩⟩
  cases hs : isSec s.data.toList
  · rfl
  · exact absurd (sec_reads hs) h
theorem get_is (s : ByteArray) (r : Int) (w : World) (hr : (getN s.data.toList : Int) = r) :
    Calls Try.prog 39 #[.string s] w fun e w' => e = .returned (.int .u64 r) ∧ Below w.heap.size w w' := Wd.get_at s r w hr

set_option maxHeartbeats 8000000 in
set_option maxRecDepth 100000 in
theorem read_any (s : ByteArray) (w : World) (hsz : s.size ≤ maxLen) : Calls Try.prog 29 #[.string s] w (ReadP s w) := by
  by_cases hs : s.size = 128
  case neg =>
    have C := Lib.hid (fun w => cut_no s w hsz hs)
    have B0 := below1 w (.cells #[.int .u64 0, .int .u32 0, .int .u64 0, .int .u64 0, .slice none 0 0, .slice none 0 0] 26)
    have BB := Lib.hid B0
    clear B0
    go_enter Try.func29, Try.ntmps29
    go_wp2_with fail
    refine (C.out _).mono ?_
    rintro e' w1 ⟨rfl, hb⟩
    go_wp2_with fail
    exact ⟨rfl, read_not (Wd.Ge.trans BB.out hb) (fun h => hs (by rw [Go.Lib.size_eq]; exact h.len))⟩
  case pos =>
  obtain ⟨l, EL⟩ : ∃ l, Hid (s.data.toList = l) := ⟨_, rfl⟩
  have HL : Hid (l.length = 128) := Lib.hid (by rw [← EL.out, ← Go.Lib.size_eq, hs])
  have C := Lib.hid (fun w => cut_yes s w hs)
  rw [EL.out] at C
  have Z0 : Hid (Blk (w.alloc (.cells #[.int .u64 0, .int .u32 0, .int .u64 0, .int .u64 0, .slice none 0 0, .slice none 0 0] 26)) w.heap.size 26 (csC 0 0 0 0 none 0 0 none 0 0)) := Lib.hid (Blk.new w 26 _)
  have B0 := Lib.hid (below1 w (.cells #[.int .u64 0, .int .u32 0, .int .u64 0, .int .u64 0, .slice none 0 0, .slice none 0 0] 26))
  have hv := zero_fields.1
  have hq8 := eql8 (part l 120 8) (part l 0 8) (part_len l 120 8 HL.out (by omega)) (part_len l 0 8 HL.out (by omega))
  obtain ⟨X, HX⟩ : ∃ X : ByteArray, Hid (X.data.toList = part l 116 4) := ⟨⟨(part l 116 4).toArray⟩, Lib.hid (by simp)⟩
  obtain ⟨x, Hx⟩ : ∃ x : Int, Hid ((getN X.data.toList : Int) = x) := ⟨_, rfl⟩
  obtain ⟨Y, HYe⟩ : ∃ Y : ByteArray, s.extract 0 116 = Y := ⟨_, rfl⟩
  have HY : Hid (Y.data.toList = l.take 116) := Lib.hid (by rw [← HYe, ← EL.out]; simp [ByteArray.data_extract, Array.toList_extract])
  have hYs : Y.size ≤ maxLen := by rw [Go.Lib.size_eq, HY.out, List.length_take, HL.out]; unfold maxLen; omega
  obtain ⟨M, HM⟩ : ∃ M : Int, Hid (((Crc.more 0 Y.data.toList : Nat) : Int) = M) := ⟨_, rfl⟩
  have M0 : 0 ≤ M := by rw [← HM.out]; omega
  have M1 : M < 4294967296 := by
    have := Crc.more_lt Y.data.toList (s := 0) (by omega)
    rw [← HM.out]; omega
  obtain ⟨b, hxM⟩ : ∃ b : Bool, (x == M) = b := ⟨_, rfl⟩
  go_enter Try.func29, Try.ntmps29
  go_wp2_with fail
  refine (C.out _).mono ?_
  rintro e' w1 ⟨rfl, hb⟩
  have Z1 := Z0.out.later hb
  have B1 := Wd.Ge.trans B0.out hb
  have F1 : Blk (w1.alloc (.cells z128 69)) w1.heap.size 69 z128 := Blk.new w1 69 z128
  go_upto_region 2 with (with_reducible refine store_f rfl (.tmp 3) (.tmp 8) rfl w1.heap.size rfl l HL.out rfl F1 ?_; rw [World.setRow_alloc_new])
  have R : RdC w w1.heap.size l (w1.alloc (.cells (rowB l 128) 69)) := ⟨Wd.Ge.trans B1 (below1 _ _), Z1.later (below1 _ _), Blk.new _ _ _⟩
  generalize w1.alloc (.cells (rowB l 128) 69) = w2 at *
  generalize w1.heap.size = fb at *
  clear Z0 B0 Z1 B1 F1 hb C hv
  have RR := Lib.hid R
  have RF := Lib.hid R.f
  clear R
  by_cases hends : part l 120 8 = part l 0 8
  case neg =>
    rw [decide_eq_false hends] at hq8
    go_wp2_with (first
      | (with_reducible refine load_8 rfl (.tmp 9) rfl fb 120 rfl l HL.out (by omega) RF.out ?_)
      | (with_reducible refine load_8 rfl (.tmp 11) rfl fb 0 rfl l HL.out (by omega) RF.out ?_))
    refine (need_no _).mono ?_
    rintro e' w' ⟨rfl, rfl⟩
    go_wp2_with fail
    refine ⟨rfl, read_not RR.out.b (fun h => hends ?_)⟩
    have := h.ends
    rw [EL.out] at this
    unfold part
    rw [List.drop_zero, ← this, List.take_of_length_le (by rw [List.length_drop, HL.out]; omega)]
  case pos =>
  rw [decide_eq_true hends] at hq8
  have HE := Lib.hid hends
  clear hends
  go_wp2_with (first
    | (with_reducible refine load_8 rfl (.tmp 9) rfl fb 120 rfl l HL.out (by omega) RF.out ?_)
    | (with_reducible refine load_8 rfl (.tmp 11) rfl fb 0 rfl l HL.out (by omega) RF.out ?_))
  refine (need_yes _).mono ?_
  rintro e' w' ⟨rfl, rfl⟩
  clear hq8
  go_wp2_with fail
  refine Free.wp_free [(fun _ u => u = .pointer (some ⟨fb, 116, none⟩)),
    (fun _ u => u = .slice (some ⟨fb, 116, none⟩) 4 4),
    (fun _ u => u = .string X),
    (fun _ u => u = .int .u64 x),
    (fun _ u => u = .string s),
    (fun _ u => u = .string Y),
    (fun _ u => u = .int .u32 M),
    (fun _ u => u = .int .u64 M),
    (fun _ u => u = .bool b),
    (fun _ _ => b = true)] (RdC w fb l) (fun u u' => Below u.heap.size u u') (by kernel_rfl) (by kernel_rfl) (RR.out.later (below_drawn _)) (fun _ _ h hb => h.later hb) (by simp) ?_ ?_
  · refine ⟨?_, ?_, ?_, ?_, ?_, ?_, ?_, ?_, ?_, ?_, trivial⟩
    · intro listed A W hA hr K hK
      have e3 : A.tmps[3]?.getD undef = .pointer (some ⟨fb, 0, none⟩) := slot_is ((hA.kept 3 (Free.not_dst (by kernel_rfl))).trans rfl)
      simp [go_sem, e3]
      exact hK _ _ (Below.refl _ _) rfl
    · intro listed A W hA hr K hK
      have e15 : A.tmps[15]?.getD undef = .pointer (some ⟨fb, 116, none⟩) := slot_is (hA.val 0 _ rfl (hr ⟨0, .data⟩ (by simp) rfl))
      simp [go_sem, e15]
      exact hK _ _ (Below.refl _ _) rfl
    · intro listed A W hA hr K hK
      have e16 : A.tmps[16]?.getD undef = .slice (some ⟨fb, 116, none⟩) 4 4 := slot_is (hA.val 1 _ rfl (hr ⟨1, .data⟩ (by simp) rfl))
      have hcv := conv_part hA.c.f HL.out 116 4 (by omega) X HX.out
      simp [go_sem, e16, hcv]
      exact hK _ _ (Below.refl _ _) rfl
    · intro listed A W hA hr K hK
      have e17 : A.tmps[17]?.getD undef = .string X := slot_is (hA.val 2 _ rfl (hr ⟨2, .data⟩ (by simp) rfl))
      simp [go_sem, e17]
      refine (get_is X x _ Hx.out).mono ?_
      rintro e' w' ⟨rfl, hb⟩
      exact hK _ _ hb rfl
    · intro listed A W hA hr K hK
      have e0 : A.tmps[0]?.getD undef = .string s := slot_is ((hA.kept 0 (Free.not_dst (by kernel_rfl))).trans rfl)
      simp [go_sem, e0]
      exact hK _ _ (Below.refl _ _) rfl
    · intro listed A W hA hr K hK
      have e19 : A.tmps[19]?.getD undef = .string s := slot_is (hA.val 4 _ rfl (hr ⟨4, .data⟩ (by simp) rfl))
      simp [go_sem, e19, hs, HYe]
      exact hK _ _ (Below.refl _ _) rfl
    · intro listed A W hA hr K hK
      have e20 : A.tmps[20]?.getD undef = .string Y := slot_is (hA.val 5 _ rfl (hr ⟨5, .data⟩ (by simp) rfl))
      simp [go_sem, e20]
      refine (sum_is Y M _ hYs HM.out).mono ?_
      rintro e' w' ⟨rfl, hb⟩
      exact hK _ _ hb rfl
    · intro listed A W hA hr K hK
      have e21 : A.tmps[21]?.getD undef = .int .u32 M := slot_is (hA.val 6 _ rfl (hr ⟨6, .data⟩ (by simp) rfl))
      simp [go_sem, e21]
      refine hK _ _ (Below.refl _ _) (show Value.int .u64 _ = .int .u64 M from Cr.val_int ?_)
      first | omega | (rw [IntKind.wrap_u64]; omega)
    · intro listed A W hA hr K hK
      have e18 : A.tmps[18]?.getD undef = .int .u64 x := slot_is (hA.val 3 _ rfl (hr ⟨3, .data⟩ (by simp) rfl))
      have e22 : A.tmps[22]?.getD undef = .int .u64 M := slot_is (hA.val 7 _ rfl (hr ⟨7, .data⟩ (by simp) rfl))
      simp [go_sem, e18, e22, hxM]
      exact hK _ _ (Below.refl _ _) rfl
    · intro listed A W hA hr K hK
      have e23 : A.tmps[23]?.getD undef = .bool b := slot_is (hA.val 8 _ rfl (hr ⟨8, .data⟩ (by simp) rfl))
      simp [go_sem, e23]
      cases b with
      | true =>
        refine (need_yes _).mono ?_
        rintro e' w' ⟨rfl, rfl⟩
        exact hK _ _ (Below.refl _ _) rfl
      | false =>
        refine (need_no _).mono ?_
        rintro e' w' ⟨rfl, rfl⟩
        refine ⟨hA.defers, read_not hA.c.b (fun h => ?_)⟩
        have h2 := h.sum
        rw [EL.out, show (l.drop 116).take 4 = part l 116 4 from rfl, ← HX.out, ← HY.out] at h2
        have h3 : x = M := by rw [← Hx.out, ← HM.out, h2]
        rw [h3] at hxM
        simp at hxM
  · intro A W hA
    have hbt : b = true := hA.val 9 _ rfl rfl
    subst hbt
    have s0 : A.tmps.getD 0 undef = .string s := (hA.kept 0 (Free.not_dst (by kernel_rfl))).trans rfl
    have s2 : A.tmps.getD 2 undef = .pointer (some ⟨w.heap.size, 0, none⟩) := (hA.kept 2 (Free.not_dst (by kernel_rfl))).trans rfl
    have s3 : A.tmps.getD 3 undef = .pointer (some ⟨fb, 0, none⟩) := (hA.kept 3 (Free.not_dst (by kernel_rfl))).trans rfl
    have hsz := hA.slots
    have hde := hA.defers
    have R := Lib.hid hA.c
    clear hA RR RF w2
    obtain ⟨tm, de⟩ := A
    simp only at s0 s2 s3 hsz hde
    obtain ⟨y, hy, ee⟩ := arrF59 hsz
    have t0 : y 0 = .string s := (hy _).symm.trans s0
    have t2 : y 2 = .pointer (some ⟨w.heap.size, 0, none⟩) := (hy _).symm.trans s2
    have t3 : y 3 = .pointer (some ⟨fb, 0, none⟩) := (hy _).symm.trans s3
    rw [t0, t2, t3] at ee
    clear hy s0 s2 s3 hsz t0 t2 t3
    subst ee hde
    have SUM : Hid (getN (part l 116 4) = Crc.more 0 (l.take 116)) := by
      refine Lib.hid ?_
      rw [← HX.out, ← HY.out]
      have h1 := Hx.out
      have h2 := HM.out
      have h3 : x = M := by simpa using hxM
      omega
    clear HX HY Hx HM hxM M0 M1 hYs HYe
    obtain ⟨n, HN⟩ : ∃ n, Hid (byteAt l 28 = n) := ⟨_, rfl⟩
    have hn256 : n < 256 := by rw [← HN.out]; exact byteAt_lt _ _
    have hni : (n : Int) < 256 := by omega
    have c28 := R.out.f.cell 28
    rw [rowB_at l 28 HL.out (by omega), HN.out] at c28
    have RF := Lib.hid R.out.f
    by_cases hn : 16 < n
    case pos =>
      have C := Lib.hid (fun w => segs_many (part l 29 87) n w hn256 hn)
      go_wp2_with (first
        | (with_reducible refine load_87 rfl (.tmp 26) rfl fb 29 rfl l HL.out (by omega) RF.out ?_))
      refine (C.out _).mono ?_
      rintro e' w3 ⟨rfl, hb⟩
      go_wp2_with fail
      refine ⟨rfl, read_not (Wd.Ge.trans R.out.b hb) (fun h => ?_)⟩
      have := h.cnt
      rw [EL.out, HN.out] at this
      omega
    case neg =>
    have hn16 : n ≤ 16 := by omega
    have C := Lib.hid (fun w => segs_any (part l 29 87) n w (part_len l 29 87 HL.out (by omega)) hn16)
    go_wp2_with (first
      | (with_reducible refine load_87 rfl (.tmp 26) rfl fb 29 rfl l HL.out (by omega) RF.out ?_))
    refine (C.out _).mono ?_
    rintro e' w3 ⟨hb, ⟨hz, bo, bl, rfl, ⟨k1, k2, k3, k4⟩, sa, sb⟩ | ⟨hz, rfl⟩⟩
    case inr =>
      go_wp2_with fail
      refine ⟨rfl, read_not (Wd.Ge.trans R.out.b hb) (fun h => hz (fun i h1 h2 => ?_))⟩
      rw [part_at l 29 87 i h2]
      have := h.zero (29 + i)
      rw [EL.out, HN.out] at this
      exact this (by omega) (by omega)
    case inl =>
    have zlt := R.out.z.lt
    have R3 := Lib.hid (R.out.later hb)
    have HZ := Lib.hid hz
    have SA := Lib.hid sa
    have SB := Lib.hid sb
    clear R hz hb C c28 RF sa sb
    obtain ⟨G1, HG1⟩ : ∃ X : ByteArray, Hid (X.data.toList = part l 0 8) := ⟨⟨(part l 0 8).toArray⟩, Lib.hid (by simp)⟩
    obtain ⟨G2, HG2⟩ : ∃ X : ByteArray, Hid (X.data.toList = part l 8 4) := ⟨⟨(part l 8 4).toArray⟩, Lib.hid (by simp)⟩
    obtain ⟨G3, HG3⟩ : ∃ X : ByteArray, Hid (X.data.toList = part l 12 8) := ⟨⟨(part l 12 8).toArray⟩, Lib.hid (by simp)⟩
    obtain ⟨G4, HG4⟩ : ∃ X : ByteArray, Hid (X.data.toList = part l 20 8) := ⟨⟨(part l 20 8).toArray⟩, Lib.hid (by simp)⟩
    obtain ⟨g, Hg⟩ : ∃ g : Int, Hid ((getN G1.data.toList : Int) = g) := ⟨_, rfl⟩
    obtain ⟨e, He⟩ : ∃ g : Int, Hid ((getN G2.data.toList : Int) = g) := ⟨_, rfl⟩
    obtain ⟨a, Ha⟩ : ∃ g : Int, Hid ((getN G3.data.toList : Int) = g) := ⟨_, rfl⟩
    obtain ⟨v, Hv⟩ : ∃ g : Int, Hid ((getN G4.data.toList : Int) = g) := ⟨_, rfl⟩
    have e0 : 0 ≤ e := by rw [← He.out]; omega
    have e1 : e < 4294967296 := by
      have := getN_lt_of (part l 8 4) 4 4294967296 (by rw [part_len l 8 4 HL.out (by omega)]; omega) (by omega) (by decide)
      rw [← He.out, HG2.out]; omega
    have CE : Hid (cutC l = ⟨g, e, a, v, evens (part l 29 87) n, odds (part l 29 87) n⟩) := by
      have := cut_eq l (by rw [HN.out]; omega) g e a v (by rw [← Hg.out, HG1.out]) (by rw [← He.out, HG2.out]) (by rw [← Ha.out, HG3.out]) (by rw [← Hv.out, HG4.out])
      rw [HN.out] at this
      exact Lib.hid this
    have hv26 := Try.zeroValue26
    obtain ⟨H, hH⟩ : ∃ H, w3.heap.size = H := ⟨_, rfl⟩
    have q1 : w.heap.size < H := by rw [← hH]; exact R3.out.z.lt
    have q2 : fb < H := by rw [← hH]; exact R3.out.f.lt
    have q3 : bo < H := by omega
    have q4 : bl < H := by omega
    have q5 : w.heap.size < bo := by omega
    have q6 : w.heap.size < bl := by omega
    have HH := Lib.hid hH
    clear hH k1 k2 k3 k4 zlt
    go_wp2_with fail
    refine FreeC.wp_freeC (wl [some (.pointer (some ⟨fb, 0, none⟩)),
    some (.slice (some ⟨fb, 0, none⟩) 8 8),
    some (.string G1),
    some (.int .u64 g),
    some (.pointer (some ⟨fb, 8, none⟩)),
    some (.slice (some ⟨fb, 8, none⟩) 4 4),
    some (.string G2),
    some (.int .u64 e),
    some (.int .u32 e),
    some (.pointer (some ⟨fb, 12, none⟩)),
    some (.slice (some ⟨fb, 12, none⟩) 8 8),
    some (.string G3),
    some (.int .u64 a),
    some (.pointer (some ⟨fb, 20, none⟩)),
    some (.slice (some ⟨fb, 20, none⟩) 8 8),
    some (.string G4),
    some (.int .u64 v),
    some (.slice (some ⟨bo, 0, none⟩) n n),
    some (.slice (some ⟨bl, 0, none⟩) n n),
    some (.agg #[.int .u64 g, .int .u32 e, .int .u64 a, .int .u64 v, .slice (some ⟨bo, 0, none⟩) n n, .slice (some ⟨bl, 0, none⟩) n n]),
    none,
    none]) (R5 w fb H bo bl n l (evens (part l 29 87) n) (odds (part l 29 87) n) (csC g e a v (some ⟨bo, 0, none⟩) n n (some ⟨bl, 0, none⟩) n n)) (by kernel_rfl) (by kernel_rfl) ⟨R3.out.later (below_drawn _), by rw [← HH.out]; exact Nat.le_refl _, SA.out.later (below_drawn _), SB.out.later (below_drawn _), fun h => by simp at h, fun h => by simp at h⟩ ?_ ?_
    · refine ⟨?_, ?_, ?_, ?_, ?_, ?_, ?_, ?_, ?_, ?_, ?_, ?_, ?_, ?_, ?_, ?_, ?_, ?_, ?_, ?_, ?_, ?_, trivial⟩
      · intro listed A W hA hno hr K hK
        have e3 : A.tmps[3]?.getD undef = .pointer (some ⟨fb, 0, none⟩) := slot_is ((hA.kept 3 (Free.not_dst (by kernel_rfl))).trans rfl)
        simp [go_sem, e3]
        exact hK _ _ (hA.c.step _ _ _ (by decide) (by decide) (by decide) (Below.refl _ _)) rfl (fun _ _ _ _ h => h)
      · intro listed A W hA hno hr K hK
        have e35 : A.tmps[35]?.getD undef = .pointer (some ⟨fb, 0, none⟩) := slot_is (hA.val 0 _ rfl (hr ⟨0, .data⟩ (by simp) rfl))
        simp [go_sem, e35]
        exact hK _ _ (hA.c.step _ _ _ (by decide) (by decide) (by decide) (Below.refl _ _)) rfl (fun _ _ _ _ h => h)
      · intro listed A W hA hno hr K hK
        have e36 : A.tmps[36]?.getD undef = .slice (some ⟨fb, 0, none⟩) 8 8 := slot_is (hA.val 1 _ rfl (hr ⟨1, .data⟩ (by simp) rfl))
        have hcv := conv_part hA.c.r.f HL.out 0 8 (by omega) G1 HG1.out
        simp [go_sem, e36, hcv]
        exact hK _ _ (hA.c.step _ _ _ (by decide) (by decide) (by decide) (Below.refl _ _)) rfl (fun _ _ _ _ h => h)
      · intro listed A W hA hno hr K hK
        have e37 : A.tmps[37]?.getD undef = .string G1 := slot_is (hA.val 2 _ rfl (hr ⟨2, .data⟩ (by simp) rfl))
        simp [go_sem, e37]
        refine (get_is G1 g _ Hg.out).mono ?_
        rintro e' w' ⟨rfl, hb⟩
        exact hK _ _ (hA.c.step _ _ _ (by decide) (by decide) (by decide) hb) rfl (fun _ _ _ _ h => wl_any h)
      · intro listed A W hA hno hr K hK
        have e3 : A.tmps[3]?.getD undef = .pointer (some ⟨fb, 0, none⟩) := slot_is ((hA.kept 3 (Free.not_dst (by kernel_rfl))).trans rfl)
        simp [go_sem, e3]
        exact hK _ _ (hA.c.step _ _ _ (by decide) (by decide) (by decide) (Below.refl _ _)) rfl (fun _ _ _ _ h => h)
      · intro listed A W hA hno hr K hK
        have e39 : A.tmps[39]?.getD undef = .pointer (some ⟨fb, 8, none⟩) := slot_is (hA.val 4 _ rfl (hr ⟨4, .data⟩ (by simp) rfl))
        simp [go_sem, e39]
        exact hK _ _ (hA.c.step _ _ _ (by decide) (by decide) (by decide) (Below.refl _ _)) rfl (fun _ _ _ _ h => h)
      · intro listed A W hA hno hr K hK
        have e40 : A.tmps[40]?.getD undef = .slice (some ⟨fb, 8, none⟩) 4 4 := slot_is (hA.val 5 _ rfl (hr ⟨5, .data⟩ (by simp) rfl))
        have hcv := conv_part hA.c.r.f HL.out 8 4 (by omega) G2 HG2.out
        simp [go_sem, e40, hcv]
        exact hK _ _ (hA.c.step _ _ _ (by decide) (by decide) (by decide) (Below.refl _ _)) rfl (fun _ _ _ _ h => h)
      · intro listed A W hA hno hr K hK
        have e41 : A.tmps[41]?.getD undef = .string G2 := slot_is (hA.val 6 _ rfl (hr ⟨6, .data⟩ (by simp) rfl))
        simp [go_sem, e41]
        refine (get_is G2 e _ He.out).mono ?_
        rintro e' w' ⟨rfl, hb⟩
        exact hK _ _ (hA.c.step _ _ _ (by decide) (by decide) (by decide) hb) rfl (fun _ _ _ _ h => wl_any h)
      · intro listed A W hA hno hr K hK
        have e42 : A.tmps[42]?.getD undef = .int .u64 e := slot_is (hA.val 7 _ rfl (hr ⟨7, .data⟩ (by simp) rfl))
        simp [go_sem, e42]
        refine hK _ _ (hA.c.step _ _ _ (by decide) (by decide) (by decide) (Below.refl _ _)) (show Value.int .u32 _ = .int .u32 e from Cr.val_int ?_) (fun _ _ _ _ h => h)
        first | omega | (rw [IntKind.wrap_u32]; omega)
      · intro listed A W hA hno hr K hK
        have e3 : A.tmps[3]?.getD undef = .pointer (some ⟨fb, 0, none⟩) := slot_is ((hA.kept 3 (Free.not_dst (by kernel_rfl))).trans rfl)
        simp [go_sem, e3]
        exact hK _ _ (hA.c.step _ _ _ (by decide) (by decide) (by decide) (Below.refl _ _)) rfl (fun _ _ _ _ h => h)
      · intro listed A W hA hno hr K hK
        have e44 : A.tmps[44]?.getD undef = .pointer (some ⟨fb, 12, none⟩) := slot_is (hA.val 9 _ rfl (hr ⟨9, .data⟩ (by simp) rfl))
        simp [go_sem, e44]
        exact hK _ _ (hA.c.step _ _ _ (by decide) (by decide) (by decide) (Below.refl _ _)) rfl (fun _ _ _ _ h => h)
      · intro listed A W hA hno hr K hK
        have e45 : A.tmps[45]?.getD undef = .slice (some ⟨fb, 12, none⟩) 8 8 := slot_is (hA.val 10 _ rfl (hr ⟨10, .data⟩ (by simp) rfl))
        have hcv := conv_part hA.c.r.f HL.out 12 8 (by omega) G3 HG3.out
        simp [go_sem, e45, hcv]
        exact hK _ _ (hA.c.step _ _ _ (by decide) (by decide) (by decide) (Below.refl _ _)) rfl (fun _ _ _ _ h => h)
      · intro listed A W hA hno hr K hK
        have e46 : A.tmps[46]?.getD undef = .string G3 := slot_is (hA.val 11 _ rfl (hr ⟨11, .data⟩ (by simp) rfl))
        simp [go_sem, e46]
        refine (get_is G3 a _ Ha.out).mono ?_
        rintro e' w' ⟨rfl, hb⟩
        exact hK _ _ (hA.c.step _ _ _ (by decide) (by decide) (by decide) hb) rfl (fun _ _ _ _ h => wl_any h)
      · intro listed A W hA hno hr K hK
        have e3 : A.tmps[3]?.getD undef = .pointer (some ⟨fb, 0, none⟩) := slot_is ((hA.kept 3 (Free.not_dst (by kernel_rfl))).trans rfl)
        simp [go_sem, e3]
        exact hK _ _ (hA.c.step _ _ _ (by decide) (by decide) (by decide) (Below.refl _ _)) rfl (fun _ _ _ _ h => h)
      · intro listed A W hA hno hr K hK
        have e48 : A.tmps[48]?.getD undef = .pointer (some ⟨fb, 20, none⟩) := slot_is (hA.val 13 _ rfl (hr ⟨13, .data⟩ (by simp) rfl))
        simp [go_sem, e48]
        exact hK _ _ (hA.c.step _ _ _ (by decide) (by decide) (by decide) (Below.refl _ _)) rfl (fun _ _ _ _ h => h)
      · intro listed A W hA hno hr K hK
        have e49 : A.tmps[49]?.getD undef = .slice (some ⟨fb, 20, none⟩) 8 8 := slot_is (hA.val 14 _ rfl (hr ⟨14, .data⟩ (by simp) rfl))
        have hcv := conv_part hA.c.r.f HL.out 20 8 (by omega) G4 HG4.out
        simp [go_sem, e49, hcv]
        exact hK _ _ (hA.c.step _ _ _ (by decide) (by decide) (by decide) (Below.refl _ _)) rfl (fun _ _ _ _ h => h)
      · intro listed A W hA hno hr K hK
        have e50 : A.tmps[50]?.getD undef = .string G4 := slot_is (hA.val 15 _ rfl (hr ⟨15, .data⟩ (by simp) rfl))
        simp [go_sem, e50]
        refine (get_is G4 v _ Hv.out).mono ?_
        rintro e' w' ⟨rfl, hb⟩
        exact hK _ _ (hA.c.step _ _ _ (by decide) (by decide) (by decide) hb) rfl (fun _ _ _ _ h => wl_any h)
      · intro listed A W hA hno hr K hK
        have e4 : A.tmps[4]?.getD undef = .slice (some ⟨bo, 0, none⟩) n n := slot_is ((hA.kept 4 (Free.not_dst (by kernel_rfl))).trans rfl)
        simp [go_sem, e4]
        exact hK _ _ (hA.c.step _ _ _ (by decide) (by decide) (by decide) (Below.refl _ _)) rfl (fun _ _ _ _ h => h)
      · intro listed A W hA hno hr K hK
        have e5 : A.tmps[5]?.getD undef = .slice (some ⟨bl, 0, none⟩) n n := slot_is ((hA.kept 5 (Free.not_dst (by kernel_rfl))).trans rfl)
        simp [go_sem, e5]
        exact hK _ _ (hA.c.step _ _ _ (by decide) (by decide) (by decide) (Below.refl _ _)) rfl (fun _ _ _ _ h => h)
      · intro listed A W hA hno hr K hK
        have e38 : A.tmps[38]?.getD undef = .int .u64 g := slot_is (hA.val 3 _ rfl (hr ⟨3, .data⟩ (by simp) rfl))
        have e43 : A.tmps[43]?.getD undef = .int .u32 e := slot_is (hA.val 8 _ rfl (hr ⟨8, .data⟩ (by simp) rfl))
        have e47 : A.tmps[47]?.getD undef = .int .u64 a := slot_is (hA.val 12 _ rfl (hr ⟨12, .data⟩ (by simp) rfl))
        have e51 : A.tmps[51]?.getD undef = .int .u64 v := slot_is (hA.val 16 _ rfl (hr ⟨16, .data⟩ (by simp) rfl))
        have e52 : A.tmps[52]?.getD undef = .slice (some ⟨bo, 0, none⟩) n n := slot_is (hA.val 17 _ rfl (hr ⟨17, .data⟩ (by simp) rfl))
        have e53 : A.tmps[53]?.getD undef = .slice (some ⟨bl, 0, none⟩) n n := slot_is (hA.val 18 _ rfl (hr ⟨18, .data⟩ (by simp) rfl))
        simp [go_sem, e38, e43, e47, e51, e52, e53]
        exact hK _ _ (hA.c.step _ _ _ (by decide) (by decide) (by decide) (Below.refl _ _)) rfl (fun _ _ _ _ h => h)
      · intro listed A W hA hno hr K hK
        have hsz := hA.size
        simp at hsz
        have hts : A.tmps.size = 59 := hA.slots
        simp [go_sem, hv26]
        exact hK _ _ (hA.c.alloc hsz (by omega) hno) trivial (fun _ _ _ _ h => wl_any h)
      · intro listed A W hA hno hr K hK
        have e54 : A.tmps[54]?.getD undef = .agg #[.int .u64 g, .int .u32 e, .int .u64 a, .int .u64 v, .slice (some ⟨bo, 0, none⟩) n n, .slice (some ⟨bl, 0, none⟩) n n] := slot_is (hA.val 19 _ rfl (hr ⟨19, .data⟩ (by simp) rfl))
        have hsz := hA.size
        simp at hsz
        have h20 := hr ⟨20, .data⟩ (by simp) rfl
        obtain ⟨b, hs6, hbH, hB⟩ := hA.c.blk h20
        refine wp_store_row _ (.tmp 6) (.tmp 54) rfl b (csC g e a v (some ⟨bo, 0, none⟩) n n (some ⟨bl, 0, none⟩) n n) hs6 ((hA.val 19 _ rfl (hr ⟨19, .data⟩ (by simp) rfl))) _ _ hB info_c (by split <;> rfl) (csC_one _ _ _ _ _ _ _ _ _ _) ?_
        exact hK undef _ (hA.c.store hsz h20 (by omega) (by omega) (by omega) (by omega) hs6) trivial (fun _ _ _ _ h => wl_any h)
    · intro A W hA
      obtain ⟨b, s6, hbH, hB⟩ := hA.c.blk (by simp)
      rw [if_pos (by simp)] at hB
      have s2 : A.tmps.getD 2 undef = .pointer (some ⟨w.heap.size, 0, none⟩) := (hA.kept 2 (Free.not_dst (by kernel_rfl))).trans rfl
      have hsz := hA.slots
      have hde := hA.defers
      have R := Lib.hid hA.c.r
      have SA2 := Lib.hid hA.c.sa
      have SB2 := Lib.hid hA.c.sb
      clear hA R3 SA SB
      obtain ⟨tm, de⟩ := A
      simp only at s6 s2 hsz hde
      obtain ⟨y, hy, ee⟩ := arrF59 hsz
      have t2 : y 2 = .pointer (some ⟨w.heap.size, 0, none⟩) := (hy _).symm.trans s2
      have t6 : y 6 = .pointer (some ⟨b, 0, none⟩) := (hy _).symm.trans s6
      rw [t2, t6] at ee
      clear hy s2 s6 hsz t2 t6
      subst ee hde
      have BB := Lib.hid hB
      have hbne : w.heap.size ≠ b := by omega
      clear hB hv26
      have g0 : 0 ≤ g := by rw [← Hg.out]; omega
      have a0 : 0 ≤ a := by rw [← Ha.out]; omega
      have hml : n ≤ maxLen := by unfold maxLen; omega
      obtain ⟨ok, HO⟩ : ∃ ok, Hid (okC ⟨g, e, a, v, evens (part l 29 87) n, odds (part l 29 87) n⟩ = ok) := ⟨_, rfl⟩
      have C := Lib.hid (right_is g e a v (some ⟨bo, 0, none⟩) n n (some ⟨bl, 0, none⟩) n n _ _ ok W SA2.out SB2.out hml g0 a0 HO.out)
      cases ok with
      | false =>
        go_wp2_with (with_reducible refine load_c rfl (.tmp 6) rfl b rfl BB.out ?_)
        refine C.out.mono ?_
        rintro e' w4 ⟨rfl, hb⟩
        go_wp2_with fail
        refine (need_no _).mono ?_
        rintro e' w5 ⟨rfl, rfl⟩
        go_wp2_with fail
        refine ⟨rfl, read_not (Wd.Ge.trans R.out.b hb) (fun h => ?_)⟩
        have := h.ok
        rw [EL.out, CE.out, HO.out] at this
        exact absurd this (by decide)
      | true =>
        go_wp2_with (with_reducible refine load_c rfl (.tmp 6) rfl b rfl BB.out ?_)
        refine C.out.mono ?_
        rintro e' w4 ⟨rfl, hb⟩
        have R4 := Lib.hid (R.out.later hb)
        have B4 := Lib.hid (BB.out.later hb)
        have SA4 := Lib.hid (SA2.out.later hb)
        have SB4 := Lib.hid (SB2.out.later hb)
        clear R BB SA2 SB2 hb C
        go_wp2_with fail
        refine (need_yes _).mono ?_
        rintro e' w5 ⟨rfl, rfl⟩
        have Z4 := Lib.hid R4.out.z
        go_wp2_with (first
          | (with_reducible refine load_c rfl (.tmp 6) rfl b rfl B4.out ?_)
          | (with_reducible refine store_c rfl (.tmp 2) (.tmp 58) rfl w.heap.size rfl rfl Z4.out ?_))
        refine bodyPost_ret (res_c1 rfl _ _ w.heap.size rfl (Z4.out.row _)) rfl ⟨below_row R4.out.b (Nat.le_refl _) _, .inl ⟨reads_sec ?_, _, rfl, ?_⟩⟩
        · rw [EL.out]
          refine ⟨HL.out, ?_, SUM.out, by rw [HN.out]; omega, fun i h1 h2 => ?_, by rw [CE.out]; exact HO.out⟩
          · have := HE.out
            unfold part at this
            rw [List.drop_zero, List.take_of_length_le (by rw [List.length_drop, HL.out]; omega)] at this
            exact this
          · rw [HN.out] at h1
            have := HZ.out (i - 29) (by omega) (by omega)
            rw [part_at l 29 87 _ (by omega), show 29 + (i - 29) = i by omega] at this
            exact this
        · rw [EL.out, CE.out]
          exact ⟨_, _, _, _, _, _, rfl, SA4.out.far (by omega) _, SB4.out.far (by omega) _, fun a ha => by injection ha with ha; subst ha; exact Nat.le_of_lt q5, fun a ha => by injection ha with ha; subst ha; exact Nat.le_of_lt q6⟩
end Go.Proofs.Ytdnkhjikfdalbaa
