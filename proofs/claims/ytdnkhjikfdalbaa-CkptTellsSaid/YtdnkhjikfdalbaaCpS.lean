/- The contract of the document's own Decode (lodgerref07), for every text: the checkpoint whose sector it is, or none; no memory that was there is changed. -/
import Derived.Test.YtdnkhjikfdalbaaCpR
import Derived.Test.YtdnkhjikfdalbaaFreeC
import Derived.Maps.AppendAt
import Derived.Deep.RegionLaw
import Derived.IntWalk
namespace Go.Proofs.Ytdnkhjikfdalbaa
open Go.RowKit Go.Lib Wd Cr
set_option linter.unusedVariables false

theorem info_parts {P : Program} {e : TypeId} {z : Value} {n b : Nat} (h : (P.info? e).map (fun i => (i.zero, i.size, i.bytes)) = some (some z, n, b)) : ∃ i, P.info? e = some i ∧ i.zero = some z ∧ i.size = n ∧ i.bytes = b := by
  obtain ⟨i, hi, hzz⟩ := Option.map_eq_some_iff.1 h
  simp only [Prod.mk.injEq] at hzz
  exact ⟨i, hi, hzz.1, hzz.2.1, hzz.2.2⟩
theorem own_slice {w : World} {base : Nat} {e : TypeId} {size n : Nat} {v : Value} {xs : List Value} (ho : w.ownsRow base e size v n xs) : ∃ A c, v = .slice A n c := by
  rcases ho.2 with ⟨rfl, rfl⟩ | ⟨g, cap, cur, rfl, _⟩
  · exact ⟨none, 0, rfl⟩
  · exact ⟨_, _, rfl⟩
/-- Ints as cells. -/
def iv (l : List Int) : List Value := l.map fun x => .int .i64 x
theorem iv_snoc (l : List Int) (x : Int) : iv l ++ [.int .i64 x] = iv (l ++ [x]) := by simp [iv]
theorem own_sl {w : World} {base : Nat} {e : TypeId} {A : Option Addr} {n c : Nat} {l : List Int} (ho : w.ownsRow base e 1 (.slice A n c) n (iv l)) : Sl w A n l := by
  have hl : n = l.length := by have := ho.1; simp [iv] at this; omega
  refine ⟨hl, fun hn => ?_⟩
  rcases ho.2 with ⟨_, h0⟩ | ⟨g, cap, cur, he, hb, hg, hc⟩
  · omega
  · injection he with he
    subst he
    refine ⟨g, 0, rfl, (Array.getElem?_eq_some_iff.1 hg).1, fun j hj => ?_⟩
    have := ho.cells (g := g) rfl j (.int .i64 (nth l j)) (by
      unfold iv nth
      rw [List.getElem?_map, List.getElem?_eq_getElem (by omega), List.getD_eq_getElem?_getD, List.getElem?_eq_getElem (by omega)]
      rfl)
    rw [Addr.add_mid] at this
    exact this
theorem blk_grown {W W' : World} {row : Option Nat} {b : Nat} {t : TypeId} {cs : Array Value} (h : Blk W b t cs) (hg : W.grownBy W' row) (hb : some b ≠ row) : Blk W' b t cs := (hg.block b h.lt hb).trans h
theorem grown_set (W : World) (b i : Nat) (u : Value) : W.grownBy (W.setCell ⟨b, i, none⟩ u) (some b) :=
  ⟨rfl, rfl, rfl, by simp, fun k hk hne => Below.heap_setCell W ⟨b, i, none⟩ u k (fun e => hne (by rw [e]))⟩

/-- An append whose run is known, at a step of a region that draws its order. -/
theorem step_append_run {ops : Array Oper} {o : Oper} {a : Act} {w : World} {K : Act → World → Prop} {Q : Exit → Act → World → Prop} {E : Prop} (hgd : o.guard = none) (s x : Operand)
    (ho : o.op = .call { callee := .builtin .append, args := #[s, x], argTypes := #[24, 24] }) (hty : o.type = 24) (u1 u2 : Value) (hs : a.eval s = u1) (hx : a.eval x = u2) {v' : Value} {W5 : World}
    (hrun : (Builtin.append_ #[24, 24] 24 #[u1, u2]).run Try.prog w = .ok v' W5) (h : K (a.put o.dst v') W5) :
    if Region.wanted o (yielded ops a.tmps) = true then Oper.wp Try.prog o a w K Q else E := by
  have hw : Region.wanted o (yielded ops a.tmps) = true := by simp [Region.wanted, hgd]
  rw [if_pos hw]
  unfold Oper.wp
  simp only [execOp, ho, hty, resolve, invoke, builtin, Sem.run_bind, Sem.run_pure, Result.andThen_ok, List.map_toArray, List.map_cons, List.map_nil, hs, hx, hrun]
  exact h
/-- While the lists are put together. -/
structure D7 (w : World) (bc : Nat) (g e a v : Int) (A : Option Addr) (p : Nat) (B : Option Addr) (q i j : Nat) (lo ln : List Int) (W : World) : Prop where
  b : Below w.heap.size w W
  z : Blk W w.heap.size 32 (csC 0 0 0 0 none 0 0 none 0 0)
  hbc : w.heap.size < bc
  k : Blk W bc 32 (csC g e a v A i p B j q)
  oo : W.ownsRow (bc + 1) 3 1 (.slice A i p) i (iv lo)
  on : W.ownsRow (bc + 1) 3 1 (.slice B j q) j (iv ln)
  ne : ∀ r, (Value.slice A i p).ownBlock = some r → (Value.slice B j q).ownBlock ≠ some r

theorem D7.pushO {w : World} {bc : Nat} {g e a v : Int} {A : Option Addr} {p : Nat} {B : Option Addr} {q i j : Nat} {lo ln : List Int} {W : World} (h : D7 w bc g e a v A p B q i j lo ln W) (x : Int) (hi : i < 16) :
    ∃ A' p' W5, (Builtin.append_ #[24, 24] 24 #[.slice A i p, .slice (some ⟨W.heap.size, 0, none⟩) 1 1]).run Try.prog (W.alloc (.cells #[.int .i64 x] 3)).drew = .ok (.slice A' (i + 1) p') W5 ∧
      W5.cell? ⟨bc, 4, none⟩ = some (.slice A i p) ∧ W5.frozen? ⟨bc, 4, none⟩ = false ∧ D7 w bc g e a v A' p' B q (i + 1) j (lo ++ [x]) ln (W5.setCell ⟨bc, 4, none⟩ (.slice A' (i + 1) p')) := by
  obtain ⟨i0, hi0, hz0, hz1, hz2⟩ := info_parts (show (Try.prog.info? 3).map (fun i => (i.zero, i.size, i.bytes)) = some (some (.int .i64 0), 1, 8) by kernel_rfl)
  have hlt := h.k.lt
  obtain ⟨v5, W5, hrun, own5, g5, _, hat5⟩ := run_append_own_at (P := Try.prog) (W.alloc (.cells #[.int .i64 x] 3)).drew (bc + 1) 24 24 3 i0 _ 1 8 Try.underlying24 hi0 hz0 hz1 hz2 rfl (by omega) (.slice A i p) i (iv lo) (h.oo.alloc _) ⟨W.heap.size, 0, none⟩ 1 1 [.int .i64 x] rfl
    (fun j u hu => by
      rw [Addr.add_mid, Nat.zero_add]
      have := (Blk.new W 3 #[.int .i64 x]).cell j
      exact this.trans (by simpa using hu))
    (by intro u hu; simp at hu; subst hu; rfl) (by unfold maxLen; omega) (by omega) (by simp [World.drew]; omega)
  obtain ⟨A', p', rfl⟩ := own_slice own5
  have hrow : ∀ r, (Value.slice A i p).ownBlock = some r → bc + 1 ≤ r := fun r hr => (h.oo.lt r hr).1
  have hsz : W.heap.size ≤ W5.heap.size := by have := g5.size; simp [World.drew] at this; omega
  have b1 : Below w.heap.size w (W.alloc (.cells #[.int .i64 x] 3)).drew := Wd.Ge.trans (Wd.Ge.trans h.b (below1 _ _)) (below_drawn _)
  have k1 : Blk (W.alloc (.cells #[.int .i64 x] 3)).drew bc 32 _ := blk_drew (h.k.later (below1 _ _))
  have z1 : Blk (W.alloc (.cells #[.int .i64 x] 3)).drew w.heap.size 32 _ := blk_drew (h.z.later (below1 _ _))
  have k5 := blk_grown k1 g5 (fun e => by have := hrow bc e.symm; omega)
  have z5 := blk_grown z1 g5 (fun e => by have := hrow _ e.symm; have := h.hbc; omega)
  have hb := h.hbc
  have gs := grown_set W5 bc 4 (.slice A' (i + 1) p')
  have oth5 := (show (W.alloc (.cells #[.int .i64 x] 3)).drew.ownsRow (bc + 1) 3 1 (.slice B j q) j (iv ln) from h.on.alloc _).kept (w' := W5) g5 (by
    cases hq : (Value.slice B j q).ownBlock with
    | none => exact .inl rfl
    | some r => exact .inr (fun e => (fun r hr => h.ne r hr : ∀ r, (Value.slice A i p).ownBlock = some r → (Value.slice B j q).ownBlock ≠ some r) r (by rw [← e]) hq))
  have ow : ∀ {u : Value} {n : Nat} {xs : List Value}, W5.ownsRow (bc + 1) 3 1 u n xs → (W5.setCell ⟨bc, 4, none⟩ (.slice A' (i + 1) p')).ownsRow (bc + 1) 3 1 u n xs := fun {u} {n} {xs} ho => ho.kept gs (by
    cases hq : u.ownBlock with
    | none => exact .inl rfl
    | some r => exact .inr (fun e => by injection e with e; have := (ho.lt r hq).1; omega))
  refine ⟨A', p', W5, hrun, k5.cell 4, blk_frozen k5 4, ⟨?_, far_set z5 (by omega) _ _, h.hbc, ?_, ?_, ow oth5, ?_⟩⟩
  · refine Below.setCell (p := ⟨bc, 4, none⟩) ?_ (by show w.heap.size ≤ bc; omega) _
    exact ⟨g5.os.trans b1.os, g5.tape.trans b1.tape, g5.output.trans b1.output, Nat.le_trans b1.size g5.size, fun b hbn => (g5.block b (Nat.lt_of_lt_of_le hbn b1.size) (fun e => by have := hrow b e.symm; omega)).trans (b1.block b hbn)⟩
  · exact blk_set k5 4 (.slice A' (i + 1) p')
  · have := ow own5
    rw [iv_snoc] at this
    exact this
  · intro r hr
    rcases hat5 with e | e
    · rw [e] at hr; exact h.ne r hr
    · rw [e] at hr
      injection hr with hr
      intro hh
      have := (h.on.lt r hh).2
      simp [World.drew] at hr
      omega

theorem D7.pushN {w : World} {bc : Nat} {g e a v : Int} {A : Option Addr} {p : Nat} {B : Option Addr} {q i j : Nat} {lo ln : List Int} {W : World} (h : D7 w bc g e a v A p B q i j lo ln W) (x : Int) (hi : j < 16) :
    ∃ A' p' W5, (Builtin.append_ #[24, 24] 24 #[.slice B j q, .slice (some ⟨W.heap.size, 0, none⟩) 1 1]).run Try.prog (W.alloc (.cells #[.int .i64 x] 3)).drew = .ok (.slice A' (j + 1) p') W5 ∧
      W5.cell? ⟨bc, 5, none⟩ = some (.slice B j q) ∧ W5.frozen? ⟨bc, 5, none⟩ = false ∧ D7 w bc g e a v A p A' p' i (j + 1) lo (ln ++ [x]) (W5.setCell ⟨bc, 5, none⟩ (.slice A' (j + 1) p')) := by
  obtain ⟨i0, hi0, hz0, hz1, hz2⟩ := info_parts (show (Try.prog.info? 3).map (fun i => (i.zero, i.size, i.bytes)) = some (some (.int .i64 0), 1, 8) by kernel_rfl)
  have hlt := h.k.lt
  obtain ⟨v5, W5, hrun, own5, g5, _, hat5⟩ := run_append_own_at (P := Try.prog) (W.alloc (.cells #[.int .i64 x] 3)).drew (bc + 1) 24 24 3 i0 _ 1 8 Try.underlying24 hi0 hz0 hz1 hz2 rfl (by omega) (.slice B j q) j (iv ln) (h.on.alloc _) ⟨W.heap.size, 0, none⟩ 1 1 [.int .i64 x] rfl
    (fun j u hu => by
      rw [Addr.add_mid, Nat.zero_add]
      have := (Blk.new W 3 #[.int .i64 x]).cell j
      exact this.trans (by simpa using hu))
    (by intro u hu; simp at hu; subst hu; rfl) (by unfold maxLen; omega) (by omega) (by simp [World.drew]; omega)
  obtain ⟨A', p', rfl⟩ := own_slice own5
  have hrow : ∀ r, (Value.slice B j q).ownBlock = some r → bc + 1 ≤ r := fun r hr => (h.on.lt r hr).1
  have hsz : W.heap.size ≤ W5.heap.size := by have := g5.size; simp [World.drew] at this; omega
  have b1 : Below w.heap.size w (W.alloc (.cells #[.int .i64 x] 3)).drew := Wd.Ge.trans (Wd.Ge.trans h.b (below1 _ _)) (below_drawn _)
  have k1 : Blk (W.alloc (.cells #[.int .i64 x] 3)).drew bc 32 _ := blk_drew (h.k.later (below1 _ _))
  have z1 : Blk (W.alloc (.cells #[.int .i64 x] 3)).drew w.heap.size 32 _ := blk_drew (h.z.later (below1 _ _))
  have k5 := blk_grown k1 g5 (fun e => by have := hrow bc e.symm; omega)
  have z5 := blk_grown z1 g5 (fun e => by have := hrow _ e.symm; have := h.hbc; omega)
  have hb := h.hbc
  have gs := grown_set W5 bc 5 (.slice A' (j + 1) p')
  have oth5 := (show (W.alloc (.cells #[.int .i64 x] 3)).drew.ownsRow (bc + 1) 3 1 (.slice A i p) i (iv lo) from h.oo.alloc _).kept (w' := W5) g5 (by
    cases hq : (Value.slice A i p).ownBlock with
    | none => exact .inl rfl
    | some r => exact .inr (fun e => (fun r hr hh => h.ne r hh hr : ∀ r, (Value.slice B j q).ownBlock = some r → (Value.slice A i p).ownBlock ≠ some r) r (by rw [← e]) hq))
  have ow : ∀ {u : Value} {n : Nat} {xs : List Value}, W5.ownsRow (bc + 1) 3 1 u n xs → (W5.setCell ⟨bc, 5, none⟩ (.slice A' (j + 1) p')).ownsRow (bc + 1) 3 1 u n xs := fun {u} {n} {xs} ho => ho.kept gs (by
    cases hq : u.ownBlock with
    | none => exact .inl rfl
    | some r => exact .inr (fun e => by injection e with e; have := (ho.lt r hq).1; omega))
  refine ⟨A', p', W5, hrun, k5.cell 5, blk_frozen k5 5, ⟨?_, far_set z5 (by omega) _ _, h.hbc, ?_, ow oth5, ?_, ?_⟩⟩
  · refine Below.setCell (p := ⟨bc, 5, none⟩) ?_ (by show w.heap.size ≤ bc; omega) _
    exact ⟨g5.os.trans b1.os, g5.tape.trans b1.tape, g5.output.trans b1.output, Nat.le_trans b1.size g5.size, fun b hbn => (g5.block b (Nat.lt_of_lt_of_le hbn b1.size) (fun e => by have := hrow b e.symm; omega)).trans (b1.block b hbn)⟩
  · exact blk_set k5 5 (.slice A' (j + 1) p')
  · have := ow own5
    rw [iv_snoc] at this
    exact this
  · intro r hr
    intro hh
    rcases hat5 with e | e
    · rw [e] at hh; exact h.ne r hr hh
    · rw [e] at hh
      injection hh with hh
      have := (h.oo.lt r hr).2
      simp [World.drew] at hh
      omega

/-- While the numbers are put together, in whatever order. -/
structure D3 (w : World) (H : Nat) (vs : Array Value) (listed : Array Bool) (a : Act) (W : World) : Prop where
  b : Below w.heap.size w W
  z : Blk W w.heap.size 32 (csC 0 0 0 0 none 0 0 none 0 0)
  hH : H ≤ W.heap.size
  ord : listed.getD 15 false = true → listed.getD 14 false = true
  blk : listed.getD 14 false = true → ∃ b, a.tmps.getD 4 undef = .pointer (some ⟨b, 0, none⟩) ∧ H ≤ b ∧ Blk W b 32 (if listed.getD 15 false = true then vs else csC 0 0 0 0 none 0 0 none 0 0)
section
variable {w : World} {H : Nat} {vs : Array Value} {listed : Array Bool} {a : Act} {W W' : World}
theorem D3.step (h : D3 w H vs listed a W) (i d : Nat) (v : Value) (hi : i ≠ 14) (hi' : i ≠ 15) (hd : d ≠ 4) (hb : Below W.heap.size W W') : D3 w H vs (listed.setIfInBounds i true) (a.put (some d) v) W' := by
  have e20 : (listed.setIfInBounds i true).getD 14 false = listed.getD 14 false := getD_set_ne false hi
  have e21 : (listed.setIfInBounds i true).getD 15 false = listed.getD 15 false := getD_set_ne false hi'
  refine ⟨Wd.Ge.trans h.b hb, h.z.later hb, Nat.le_trans h.hH hb.size, by rw [e20, e21]; exact h.ord, ?_⟩
  rw [e20, e21]
  intro hl
  obtain ⟨b, h1, h2, h3⟩ := h.blk hl
  exact ⟨b, (Free.slot_ne v hd).trans h1, h2, h3.later hb⟩
theorem D3.alloc (h : D3 w H vs listed a W) (hsz : listed.size = 16) (ha : 4 < a.tmps.size) (hno : listed.getD 14 true = false) : D3 w H vs (listed.setIfInBounds 14 true) (a.put (some 4) (.pointer (some ⟨W.heap.size, 0, none⟩))) (W.alloc (.cells (csC 0 0 0 0 none 0 0 none 0 0) 32)) := by
  have e21 : (listed.setIfInBounds 14 true).getD 15 false = listed.getD 15 false := getD_set_ne false (by omega)
  have e20 : (listed.setIfInBounds 14 true).getD 14 false = true := by simp [hsz]
  have f20 : listed.getD 14 false = false := by
    simp only [Array.getD_eq_getD_getElem?] at hno ⊢
    have : listed[14]? = some (listed[14]'(by omega)) := Array.getElem?_eq_getElem (by omega)
    rw [this] at hno ⊢
    exact hno
  have f21 : ¬ listed.getD 15 false = true := fun hh => by have := h.ord hh; rw [f20] at this; exact absurd this (by decide)
  have hb := below1 W (.cells (csC 0 0 0 0 none 0 0 none 0 0) 32)
  refine ⟨Wd.Ge.trans h.b hb, h.z.later hb, Nat.le_trans h.hH hb.size, fun _ => e20, fun _ => ⟨W.heap.size, ?_, h.hH, ?_⟩⟩
  · unfold Act.put
    simp [ha]
  · rw [e21, if_neg f21]
    exact Blk.new _ _ _
theorem D3.store (h : D3 w H vs listed a W) (hsz : listed.size = 16) (hl : listed.getD 14 false = true) (q1 : w.heap.size < H) {b : Nat} (hs : a.tmps.getD 4 undef = .pointer (some ⟨b, 0, none⟩)) :
    D3 w H vs (listed.setIfInBounds 15 true) (a.put none undef) (W.setRow b vs) := by
  obtain ⟨b', h1, h2, h3⟩ := h.blk hl
  have eb : b' = b := by rw [hs] at h1; injection h1 with h1; injection h1 with h1; injection h1 with h1; exact h1.symm
  subst eb
  have e21 : (listed.setIfInBounds 15 true).getD 15 false = true := by simp [hsz]
  have e20 : (listed.setIfInBounds 15 true).getD 14 false = listed.getD 14 false := getD_set_ne false (by omega)
  refine ⟨below_row h.b (by omega) _, h.z.far (by omega) _, by rw [row_size]; exact h.hH, fun _ => by rw [e20]; exact hl, fun _ => ⟨b', hs, h2, ?_⟩⟩
  rw [e21, if_pos rfl]
  exact h3.row _
end
theorem get_r7 (X : ByteArray) (r : Int) (w : World) (hr : (getN X.data.toList : Int) = r) :
    Calls Try.prog 22 #[.string X] w fun e w' => e = .returned (.int .u64 r) ∧ Below w.heap.size w w' := by
  subst hr; exact (R1.get_any X w).mono fun _ _ ⟨he, hw⟩ => ⟨he, hw ▸ Below.refl _ _⟩
theorem ext7 (S : ByteArray) (i j : Nat) : (S.extract i j).data.toList = (S.data.toList.take j).drop i := by
  simp [ByteArray.data_extract, Array.toList_extract]
  rw [List.drop_take]
theorem byte7 (S : ByteArray) (j x : Nat) (hx : byteAt S.data.toList j = x) (h : j < S.size) : (S[j]'h).toNat = x := by
  rw [R1.byte_get, hx]
theorem arrF74 {cs : Array Value} (h : cs.size = 74) : ∃ y : Nat → Value, (∀ i, cs.getD i undef = y i) ∧ cs = #[y 0, y 1, y 2, y 3, y 4, y 5, y 6, y 7, y 8, y 9, y 10, y 11, y 12, y 13, y 14, y 15, y 16, y 17, y 18, y 19, y 20, y 21, y 22, y 23, y 24, y 25, y 26, y 27, y 28, y 29, y 30, y 31, y 32, y 33, y 34, y 35, y 36, y 37, y 38, y 39, y 40, y 41, y 42, y 43, y 44, y 45, y 46, y 47, y 48, y 49, y 50, y 51, y 52, y 53, y 54, y 55, y 56, y 57, y 58, y 59, y 60, y 61, y 62, y 63, y 64, y 65, y 66, y 67, y 68, y 69, y 70, y 71, y 72, y 73] := by
  refine ⟨fun i => cs.getD i undef, fun _ => rfl, ?_⟩
  have e : cs = ((List.range 74).map fun i => cs.getD i undef).toArray := by
    apply Array.ext
    · simp [h]
    · intro i h1 h2
      simp [h1]
  exact e.trans rfl
theorem res_r2 {fn : Func} {p' q' : Tmp} (h : fn.results = #[.cell p' 32, .tmp q']) (tmps : Array Value) (W : World) (b : Nat) {g e l v : Int} {A : Option Addr} {m p : Nat} {B : Option Addr} {k q : Nat} {t : TypeId} {y : Value} (hp : tmps.getD p' undef = .pointer (some ⟨b, 0, none⟩)) (hq : tmps.getD q' undef = y) (L : Blk W b t (csC g e l v A m p B k q)) :
    (results fn tmps).run Try.prog W = .ok (.tuple #[.agg #[.int .u64 g, .int .u32 e, .int .u64 l, .int .u64 v, .slice A m p, .slice B k q], y]) W := by
  have hp' : tmps[p']?.getD undef = .pointer (some ⟨b, 0, none⟩) := by simpa using hp
  have hq' : tmps[q']?.getD undef = y := by simpa using hq
  have h1 : (loadVar 32 ⟨b, 0, none⟩).run Try.prog W = .ok (.agg #[.int .u64 g, .int .u32 e, .int .u64 l, .int .u64 v, .slice A m p, .slice B k q]) W := run_loadVar_row W b t 32 (csC g e l v A m p B k q) (0, 0) _ L Try.underlying32 rfl info_r
  simp [results, h, hp', hq', asAddr, h1]
def evs (l : List UInt8) (i : Nat) : List Int := (List.range i).map fun i => ((byteAt l (29 + 2 * i) : Nat) : Int)
def ods (l : List UInt8) (i : Nat) : List Int := (List.range i).map fun i => ((byteAt l (30 + 2 * i) : Nat) : Int)
theorem evs_snoc (l : List UInt8) (i : Nat) : evs l i ++ [((byteAt l (29 + 2 * i) : Nat) : Int)] = evs l (i + 1) := by simp [evs, List.range_succ]
theorem ods_snoc (l : List UInt8) (i : Nat) : ods l i ++ [((byteAt l (30 + 2 * i) : Nat) : Int)] = ods l (i + 1) := by simp [ods, List.range_succ]

namespace R7
theorem decode_early (s : ByteArray) (w : World) (hs : s.size ≤ maxLen) (h : s.size ≠ 128 ∨ (s.size = 128 ∧ 16 < byteAt s.data.toList 28)) : Calls Try.prog 14 #[.string s] w (DecP s w) := by
  have hsec : isSec s.data.toList = false := by
    cases hq : isSec s.data.toList
    · rfl
    · have R := sec_reads hq
      have h1 := R.len
      have h2 := R.cnt
      rw [← Go.Lib.size_eq] at h1
      omega
  have K0 := Lib.hid (show Blk (w.alloc (.cells #[.int .u64 0, .int .u32 0, .int .u64 0, .int .u64 0, .slice none 0 0, .slice none 0 0] 32)) w.heap.size 32 (csC 0 0 0 0 none 0 0 none 0 0) from Blk.new w 32 _)
  have B0 := Lib.hid (below1 w (.cells #[.int .u64 0, .int .u32 0, .int .u64 0, .int .u64 0, .slice none 0 0, .slice none 0 0] 32))
  rcases h with h | ⟨h, h2⟩
  · have hq : ((s.size : Int) != 128) = true := by simp; omega
    go_enter Try.func14, Try.ntmps14
    go_wp2_with (with_reducible refine store_r rfl (.tmp 2) (.tmp 16) rfl w.heap.size rfl rfl K0.out ?_)
    refine bodyPost_ret (res_r2 rfl _ _ w.heap.size rfl rfl (K0.out.row _)) rfl ⟨below_row B0.out (Nat.le_refl _) _, .agg #[.int .u64 0, .int .u32 0, .int .u64 0, .int .u64 0, .slice none 0 0, .slice none 0 0], ?_, ?_⟩
    · rw [(dec_no hsec).2]; rfl
    · rw [(dec_no hsec).1]; exact zero_new _ _
  · have hq : ((s.size : Int) != 128) = false := by simp; omega
    have hzi : (s.size : Int) = 128 := by omega
    obtain ⟨x, hx⟩ : ∃ x, byteAt s.data.toList 28 = x := ⟨_, rfl⟩
    have b28 := byte7 s 28 x hx (by omega)
    have hx2 : (16 : Int) < (x : Int) := by omega
    have hx3 : x < 256 := by rw [← hx]; exact byteAt_lt _ _
    clear hx h2
    go_enter Try.func14, Try.ntmps14
    go_wp2_with (with_reducible refine store_r rfl (.tmp 2) (.tmp 16) rfl w.heap.size rfl rfl K0.out ?_)
    refine bodyPost_ret (res_r2 rfl _ _ w.heap.size rfl rfl (K0.out.row _)) rfl ⟨below_row B0.out (Nat.le_refl _) _, .agg #[.int .u64 0, .int .u32 0, .int .u64 0, .int .u64 0, .slice none 0 0, .slice none 0 0], ?_, ?_⟩
    · rw [(dec_no hsec).2]; rfl
    · rw [(dec_no hsec).1]; exact zero_new _ _

set_option maxHeartbeats 8000000 in
set_option maxRecDepth 100000 in
theorem decode_main (s : ByteArray) (w : World) (hs : s.size = 128) (c : Nat) (HC : Hid (byteAt s.data.toList 28 = c)) (hc : c ≤ 16) : Calls Try.prog 14 #[.string s] w (DecP s w) := by
  have hq : ((s.size : Int) != 128) = false := by simp; omega
  have hzi : (s.size : Int) = 128 := by omega
  have b28 := byte7 s 28 c HC.out (by omega)
  have hci : ¬ (16 : Int) < (c : Int) := by omega
  obtain ⟨l, EL⟩ : ∃ l, Hid (s.data.toList = l) := ⟨_, rfl⟩
  have ll : l.length = 128 := by rw [← EL.out, ← Go.Lib.size_eq, hs]
  obtain ⟨G1, x1⟩ : ∃ G, s.extract 0 8 = G := ⟨_, rfl⟩
  obtain ⟨G2, x2⟩ : ∃ G, s.extract 8 12 = G := ⟨_, rfl⟩
  obtain ⟨G3, x3⟩ : ∃ G, s.extract 12 20 = G := ⟨_, rfl⟩
  obtain ⟨G4, x4⟩ : ∃ G, s.extract 20 28 = G := ⟨_, rfl⟩
  obtain ⟨g, v1⟩ : ∃ g : Int, Hid ((getN G1.data.toList : Int) = g) := ⟨_, rfl⟩
  obtain ⟨e, v2⟩ : ∃ g : Int, Hid ((getN G2.data.toList : Int) = g) := ⟨_, rfl⟩
  obtain ⟨a, v3⟩ : ∃ g : Int, Hid ((getN G3.data.toList : Int) = g) := ⟨_, rfl⟩
  obtain ⟨v, v4⟩ : ∃ g : Int, Hid ((getN G4.data.toList : Int) = g) := ⟨_, rfl⟩
  have p2 : G2.data.toList = (l.drop 8).take 4 := by rw [← x2, ext7, List.drop_take, EL.out]
  have CE : Hid (cutC l = ⟨g, e, a, v, evs l c, ods l c⟩) := by
    refine Lib.hid ?_
    unfold cutC evs ods
    rw [← v1.out, ← v2.out, ← v3.out, ← v4.out, p2, ← x1, ← x3, ← x4, ext7, ext7, ext7, EL.out, List.drop_zero, List.drop_take, List.drop_take, ← EL.out, HC.out]
  have e0 : 0 ≤ e := by rw [← v2.out]; omega
  have e1 : e < 4294967296 := by
    have := getN_lt_of ((l.drop 8).take 4) 4 4294967296 (by rw [List.length_take]; omega) (by omega) (by decide)
    rw [← v2.out, p2]; omega
  have hf := cutC_fits l
  rw [CE.out] at hf
  have HF := Lib.hid hf
  have LL := Lib.hid ll
  clear hf p2 ll
  have hv32 := Try.zeroValue32
  have K0 : Blk (w.alloc (.cells #[.int .u64 0, .int .u32 0, .int .u64 0, .int .u64 0, .slice none 0 0, .slice none 0 0] 32)) w.heap.size 32 (csC 0 0 0 0 none 0 0 none 0 0) := Blk.new w 32 _
  have B0 := below1 w (.cells #[.int .u64 0, .int .u32 0, .int .u64 0, .int .u64 0, .slice none 0 0, .slice none 0 0] 32)
  have hq1 : w.heap.size < w.heap.size + 1 := by omega
  have HK := Lib.hid K0
  have HB := Lib.hid B0
  clear K0 B0
  go_enter Try.func14, Try.ntmps14
  go_wp2_with fail
  refine FreeC.wp_freeC (wl [some (.string s),
    some (.string G1),
    some (.int .u64 g),
    some (.string s),
    some (.string G2),
    some (.int .u64 e),
    some (.int .u32 e),
    some (.string s),
    some (.string G3),
    some (.int .u64 a),
    some (.string s),
    some (.string G4),
    some (.int .u64 v),
    some (.agg #[.int .u64 g, .int .u32 e, .int .u64 a, .int .u64 v, .slice none 0 0, .slice none 0 0]),
    none,
    none]) (D3 w (w.heap.size + 1) (csC g e a v none 0 0 none 0 0)) (by kernel_rfl) (by kernel_rfl) ⟨Wd.Ge.trans HB.out (below_drawn _), HK.out.later (below_drawn _), by simp, fun h => by simp at h, fun h => by simp at h⟩ ?_ ?_
  · refine ⟨?_, ?_, ?_, ?_, ?_, ?_, ?_, ?_, ?_, ?_, ?_, ?_, ?_, ?_, ?_, ?_, trivial⟩
    · intro listed A W hA hno hr K hK
      have e0 : A.tmps[0]?.getD undef = .string s := slot_is ((hA.kept 0 (Free.not_dst (by kernel_rfl))).trans rfl)
      simp [go_sem, e0]
      exact hK _ _ (hA.c.step _ _ _ (by decide) (by decide) (by decide) (Below.refl _ _)) rfl (fun _ _ _ _ h => h)
    · intro listed A W hA hno hr K hK
      have e17 : A.tmps[17]?.getD undef = .string s := slot_is (hA.val 0 _ rfl (hr ⟨0, .data⟩ (by simp) rfl))
      simp [go_sem, e17, hs, x1]
      exact hK _ _ (hA.c.step _ _ _ (by decide) (by decide) (by decide) (Below.refl _ _)) rfl (fun _ _ _ _ h => h)
    · intro listed A W hA hno hr K hK
      have e18 : A.tmps[18]?.getD undef = .string G1 := slot_is (hA.val 1 _ rfl (hr ⟨1, .data⟩ (by simp) rfl))
      simp [go_sem, e18]
      refine (get_r7 G1 g _ v1.out).mono ?_
      rintro e' w' ⟨rfl, hb⟩
      exact hK _ _ (hA.c.step _ _ _ (by decide) (by decide) (by decide) hb) rfl (fun _ _ _ _ h => wl_any h)
    · intro listed A W hA hno hr K hK
      have e0 : A.tmps[0]?.getD undef = .string s := slot_is ((hA.kept 0 (Free.not_dst (by kernel_rfl))).trans rfl)
      simp [go_sem, e0]
      exact hK _ _ (hA.c.step _ _ _ (by decide) (by decide) (by decide) (Below.refl _ _)) rfl (fun _ _ _ _ h => h)
    · intro listed A W hA hno hr K hK
      have e20 : A.tmps[20]?.getD undef = .string s := slot_is (hA.val 3 _ rfl (hr ⟨3, .data⟩ (by simp) rfl))
      simp [go_sem, e20, hs, x2]
      exact hK _ _ (hA.c.step _ _ _ (by decide) (by decide) (by decide) (Below.refl _ _)) rfl (fun _ _ _ _ h => h)
    · intro listed A W hA hno hr K hK
      have e21 : A.tmps[21]?.getD undef = .string G2 := slot_is (hA.val 4 _ rfl (hr ⟨4, .data⟩ (by simp) rfl))
      simp [go_sem, e21]
      refine (get_r7 G2 e _ v2.out).mono ?_
      rintro e' w' ⟨rfl, hb⟩
      exact hK _ _ (hA.c.step _ _ _ (by decide) (by decide) (by decide) hb) rfl (fun _ _ _ _ h => wl_any h)
    · intro listed A W hA hno hr K hK
      have e22 : A.tmps[22]?.getD undef = .int .u64 e := slot_is (hA.val 5 _ rfl (hr ⟨5, .data⟩ (by simp) rfl))
      simp [go_sem, e22]
      refine hK _ _ (hA.c.step _ _ _ (by decide) (by decide) (by decide) (Below.refl _ _)) (show Value.int .u32 _ = .int .u32 e from Cr.val_int ?_) (fun _ _ _ _ h => h)
      first | omega | (rw [IntKind.wrap_u32]; omega)
    · intro listed A W hA hno hr K hK
      have e0 : A.tmps[0]?.getD undef = .string s := slot_is ((hA.kept 0 (Free.not_dst (by kernel_rfl))).trans rfl)
      simp [go_sem, e0]
      exact hK _ _ (hA.c.step _ _ _ (by decide) (by decide) (by decide) (Below.refl _ _)) rfl (fun _ _ _ _ h => h)
    · intro listed A W hA hno hr K hK
      have e24 : A.tmps[24]?.getD undef = .string s := slot_is (hA.val 7 _ rfl (hr ⟨7, .data⟩ (by simp) rfl))
      simp [go_sem, e24, hs, x3]
      exact hK _ _ (hA.c.step _ _ _ (by decide) (by decide) (by decide) (Below.refl _ _)) rfl (fun _ _ _ _ h => h)
    · intro listed A W hA hno hr K hK
      have e25 : A.tmps[25]?.getD undef = .string G3 := slot_is (hA.val 8 _ rfl (hr ⟨8, .data⟩ (by simp) rfl))
      simp [go_sem, e25]
      refine (get_r7 G3 a _ v3.out).mono ?_
      rintro e' w' ⟨rfl, hb⟩
      exact hK _ _ (hA.c.step _ _ _ (by decide) (by decide) (by decide) hb) rfl (fun _ _ _ _ h => wl_any h)
    · intro listed A W hA hno hr K hK
      have e0 : A.tmps[0]?.getD undef = .string s := slot_is ((hA.kept 0 (Free.not_dst (by kernel_rfl))).trans rfl)
      simp [go_sem, e0]
      exact hK _ _ (hA.c.step _ _ _ (by decide) (by decide) (by decide) (Below.refl _ _)) rfl (fun _ _ _ _ h => h)
    · intro listed A W hA hno hr K hK
      have e27 : A.tmps[27]?.getD undef = .string s := slot_is (hA.val 10 _ rfl (hr ⟨10, .data⟩ (by simp) rfl))
      simp [go_sem, e27, hs, x4]
      exact hK _ _ (hA.c.step _ _ _ (by decide) (by decide) (by decide) (Below.refl _ _)) rfl (fun _ _ _ _ h => h)
    · intro listed A W hA hno hr K hK
      have e28 : A.tmps[28]?.getD undef = .string G4 := slot_is (hA.val 11 _ rfl (hr ⟨11, .data⟩ (by simp) rfl))
      simp [go_sem, e28]
      refine (get_r7 G4 v _ v4.out).mono ?_
      rintro e' w' ⟨rfl, hb⟩
      exact hK _ _ (hA.c.step _ _ _ (by decide) (by decide) (by decide) hb) rfl (fun _ _ _ _ h => wl_any h)
    · intro listed A W hA hno hr K hK
      have e19 : A.tmps[19]?.getD undef = .int .u64 g := slot_is (hA.val 2 _ rfl (hr ⟨2, .data⟩ (by simp) rfl))
      have e23 : A.tmps[23]?.getD undef = .int .u32 e := slot_is (hA.val 6 _ rfl (hr ⟨6, .data⟩ (by simp) rfl))
      have e26 : A.tmps[26]?.getD undef = .int .u64 a := slot_is (hA.val 9 _ rfl (hr ⟨9, .data⟩ (by simp) rfl))
      have e29 : A.tmps[29]?.getD undef = .int .u64 v := slot_is (hA.val 12 _ rfl (hr ⟨12, .data⟩ (by simp) rfl))
      simp [go_sem, e19, e23, e26, e29]
      exact hK _ _ (hA.c.step _ _ _ (by decide) (by decide) (by decide) (Below.refl _ _)) rfl (fun _ _ _ _ h => h)
    · intro listed A W hA hno hr K hK
      have hsz := hA.size
      simp at hsz
      have hts : A.tmps.size = 74 := hA.slots
      simp [go_sem, hv32]
      exact hK _ _ (hA.c.alloc hsz (by omega) hno) trivial (fun _ _ _ _ h => wl_any h)
    · intro listed A W hA hno hr K hK
      have e30 : A.tmps[30]?.getD undef = .agg #[.int .u64 g, .int .u32 e, .int .u64 a, .int .u64 v, .slice none 0 0, .slice none 0 0] := slot_is (hA.val 13 _ rfl (hr ⟨13, .data⟩ (by simp) rfl))
      have hsz := hA.size
      simp at hsz
      have h20 := hr ⟨14, .data⟩ (by simp) rfl
      obtain ⟨b, hs6, hbH, hB⟩ := hA.c.blk h20
      refine wp_store_row _ (.tmp 4) (.tmp 30) rfl b (csC g e a v none 0 0 none 0 0) hs6 ((hA.val 13 _ rfl (hr ⟨13, .data⟩ (by simp) rfl))) _ _ hB info_r (by split <;> rfl) (csC_one _ _ _ _ _ _ _ _ _ _) ?_
      exact hK undef _ (hA.c.store hsz h20 hq1 hs6) trivial (fun _ _ _ _ h => wl_any h)
  · intro A W hA
    obtain ⟨bc, s4, hbH, hB⟩ := hA.c.blk (by simp)
    rw [if_pos (by simp)] at hB
    have s0 : A.tmps.getD 0 undef = .string s := (hA.kept 0 (Free.not_dst (by kernel_rfl))).trans rfl
    have s2 : A.tmps.getD 2 undef = .pointer (some ⟨w.heap.size, 0, none⟩) := (hA.kept 2 (Free.not_dst (by kernel_rfl))).trans rfl
    have hsz := hA.slots
    have hde := hA.defers
    have D0 : Hid (D7 w bc g e a v none 0 none 0 0 0 (evs l 0) (ods l 0) W) := Lib.hid ⟨hA.c.b, hA.c.z, by omega, hB, World.ownsRow_nil _ _ _ _, World.ownsRow_nil _ _ _ _, fun r hr => by cases hr⟩
    clear hA hB HK HB hv32
    obtain ⟨tm, de⟩ := A
    simp only at s4 s0 s2 hsz hde
    obtain ⟨y, hy, ee⟩ := arrF74 hsz
    have t0 : y 0 = .string s := (hy _).symm.trans s0
    have t2 : y 2 = .pointer (some ⟨w.heap.size, 0, none⟩) := (hy _).symm.trans s2
    have t4 : y 4 = .pointer (some ⟨bc, 0, none⟩) := (hy _).symm.trans s4
    rw [t0, t2, t4] at ee
    clear hy s0 s2 s4 hsz t0 t2 t4
    subst ee hde
    clear x1 x2 x3 x4
    go_wp2_with fail
    go_loopg [5] 16 (fun gk s5 wr => ∃ (i : Nat) (A : Option Addr) (p : Nat) (B : Option Addr) (q : Nat), i ≤ c ∧ gk = 16 - i ∧ s5 = .int .i64 i ∧ Hid (D7 w bc g e a v A p B q i i (evs l i) (ods l i) wr))
    case atStart => exact ⟨0, none, 0, none, 0, by omega, rfl, rfl, D0⟩
    case round =>
      obtain ⟨i, A, p, B, q, hi, hgk, rfl, DD⟩ := hrel
      have HG := Lib.hid hgk
      clear hgk
      by_cases hlt : i < c
      · have hlti : (i : Int) < (c : Int) := by omega
        obtain ⟨x, hx⟩ : ∃ x : Nat, Hid (byteAt l (29 + 2 * i) = x) := ⟨_, rfl⟩
        obtain ⟨z, hz⟩ : ∃ z : Nat, Hid (byteAt l (30 + 2 * i) = z) := ⟨_, rfl⟩
        have bx := byte7 s (29 + 2 * i) x (by rw [EL.out, hx.out]) (by omega)
        have bz := byte7 s (30 + 2 * i) z (by rw [EL.out, hz.out]) (by omega)
        have hx1 : x < 256 := by rw [← hx.out]; exact byteAt_lt _ _
        have hz1 : z < 256 := by rw [← hz.out]; exact byteAt_lt _ _
        have w1 : IntKind.i64.wrap (2 * (i : Int)) = 2 * (i : Int) := IntWalk.i64_in _ (by omega)
        have w2 : IntKind.i64.wrap (29 + 2 * (i : Int)) = 29 + 2 * (i : Int) := IntWalk.i64_in _ (by omega)
        have w3 : IntKind.i64.wrap (30 + 2 * (i : Int)) = 30 + 2 * (i : Int) := IntWalk.i64_in _ (by omega)
        have t2 : (29 + 2 * (i : Int)).toNat = 29 + 2 * i := by omega
        have t3 : (30 + 2 * (i : Int)).toNat = 30 + 2 * i := by omega
        have r2 : 0 ≤ 29 + 2 * (i : Int) := by omega
        have r3 : 0 ≤ 30 + 2 * (i : Int) := by omega
        have r4 : 29 + 2 * (i : Int) < 128 := by omega
        have r5 : 30 + 2 * (i : Int) < 128 := by omega
        have r6 : 29 + 2 * i < 128 := by omega
        have r7 : 30 + 2 * i < 128 := by omega
        have wx : IntKind.i64.wrap (x : Int) = (x : Int) := IntWalk.i64_in _ (by omega)
        have wz : IntKind.i64.wrap (z : Int) = (z : Int) := IntWalk.i64_in _ (by omega)
        obtain ⟨A', p', W5, hrun, cc5, ff5, D5⟩ := DD.out.pushO (x : Int) (by omega)
        have c4 : wr.cell? ⟨bc, 4, none⟩ = some (.slice A i p) := DD.out.k.cell 4
        have c4' : (wr.alloc (.cells #[.int .i64 (x : Int)] 3)).cell? ⟨bc, 4, none⟩ = some (.slice A i p) := (DD.out.k.later (below1 _ _)).cell 4
        have HD5 := Lib.hid D5
        clear D5
        go_upto_region 7 with fail
        go_region_law (refine step_append_run rfl (.tmp 39) (.tmp 46) rfl rfl _ _ rfl rfl hrun ?_)
        all_goals
          go_upto_region 8 with fail
          generalize W5.setCell ⟨bc, 4, none⟩ (.slice A' (i + 1) p') = wm at *
          clear hrun cc5 ff5 c4 c4'
          obtain ⟨B', q', W6, hrun, cc6, ff6, D6⟩ := HD5.out.pushN (z : Int) (by omega)
          have c5 : wm.cell? ⟨bc, 5, none⟩ = some (.slice B i q) := HD5.out.k.cell 5
          have c5' : (wm.alloc (.cells #[.int .i64 (z : Int)] 3)).cell? ⟨bc, 5, none⟩ = some (.slice B i q) := (HD5.out.k.later (below1 _ _)).cell 5
          rw [← hx.out, evs_snoc, ← hz.out, ods_snoc] at D6
          have HD6 := Lib.hid D6
          clear D6
          go_region_law (refine step_append_run rfl (.tmp 50) (.tmp 57) rfl rfl _ _ rfl rfl hrun ?_)
          all_goals
            clear c5 c5' cc6 ff6
            go_wp2_with fail
            go_roundg (16 - (i + 1))
            case measure => have := HG.out; omega
            case rel => exact ⟨i + 1, A', p', B', q', by omega, rfl, by go_num, HD6⟩
      · obtain rfl : i = c := by omega
        have hlti : ¬ (i : Int) < (i : Int) := by omega
        clear hi hlt HG D0
        have hdo := own_sl DD.out.oo
        have hdn := own_sl DD.out.on
        have HO := Lib.hid hdo
        have HN := Lib.hid hdn
        clear hdo hdn
        cases hok : okC ⟨g, e, a, v, evs l i, ods l i⟩
        · have hsec : isSec s.data.toList = false := by
            cases hh : isSec s.data.toList
            · rfl
            · have := ((isSec_iff _).1 hh).1
              rw [EL.out, CE.out, hok] at this
              cases this
          go_wp2_with (with_reducible refine load_r rfl (.tmp 4) rfl bc rfl DD.out.k ?_)
          refine (R7.encode_no g e a v A i p B i q (evs l i) (ods l i) _ HO.out HN.out (by unfold maxLen; omega) HF.out.g0 HF.out.l0 hok).mono ?_
          rintro e' wn ⟨rfl, hb⟩
          have Z := Lib.hid (DD.out.z.later hb)
          have BB := Lib.hid (Wd.Ge.trans DD.out.b hb)
          clear hb
          go_wp2_with (with_reducible refine store_r rfl (.tmp 2) (.tmp 72) rfl w.heap.size rfl rfl Z.out ?_)
          refine bodyPost_ret (res_r2 rfl _ _ w.heap.size rfl rfl (Z.out.row _)) rfl ⟨below_row BB.out (Nat.le_refl _) _, .agg #[.int .u64 0, .int .u32 0, .int .u64 0, .int .u64 0, .slice none 0 0, .slice none 0 0], ?_, ?_⟩
          · rw [(dec_no hsec).2]; rfl
          · rw [(dec_no hsec).1]; exact zero_new _ _
        · by_cases heq : secL ⟨g, e, a, v, evs l i, ods l i⟩ = l
          · have hsec : isSec s.data.toList = true := by
              rw [isSec_iff, EL.out, CE.out]; exact ⟨hok, heq⟩
            have heq' := Lib.hid (heq.trans EL.out.symm)
            clear heq
            go_wp2_with (with_reducible refine load_r rfl (.tmp 4) rfl bc rfl DD.out.k ?_)
            refine (R7.encode_yes g e a v A i p B i q (evs l i) (ods l i) s _ HO.out HN.out HF.out hok heq'.out).mono ?_
            rintro e' wn ⟨rfl, hb⟩
            have Z := Lib.hid (DD.out.z.later hb)
            have BB := Lib.hid (Wd.Ge.trans DD.out.b hb)
            have KK := Lib.hid (DD.out.k.later hb)
            have HO2 := Lib.hid (HO.out.later hb)
            have HN2 := Lib.hid (HN.out.later hb)
            clear hb
            have loA : ∀ x, A = some x → w.heap.size < x.block := fun x hx => by
              subst hx
              obtain ⟨xb, xo, xp⟩ := x
              have h1 := DD.out.oo
              rcases h1.2 with ⟨h0, _⟩ | ⟨g', cap, cur, he, hbb, _⟩
              · cases h0
              · injection he with he
                injection he with he
                injection he with he
                have := DD.out.hbc
                show w.heap.size < xb
                omega
            have loB : ∀ x, B = some x → w.heap.size < x.block := fun x hx => by
              subst hx
              obtain ⟨xb, xo, xp⟩ := x
              have h1 := DD.out.on
              rcases h1.2 with ⟨h0, _⟩ | ⟨g', cap, cur, he, hbb, _⟩
              · cases h0
              · injection he with he
                injection he with he
                injection he with he
                have := DD.out.hbc
                show w.heap.size < xb
                omega
            have HLA := Lib.hid loA
            have HLB := Lib.hid loB
            clear loA loB
            go_wp2_with (with_reducible first | refine load_r rfl (.tmp 4) rfl bc rfl KK.out ?_ | refine store_r rfl (.tmp 2) (.tmp 73) rfl w.heap.size rfl rfl Z.out ?_)
            refine bodyPost_ret (res_r2 rfl _ _ w.heap.size rfl rfl (Z.out.row _)) rfl ⟨below_row BB.out (Nat.le_refl _) _, .agg (csC g e a v A i p B i q), ?_, ?_⟩
            · rw [(dec_yes hsec).2]; rfl
            · rw [(dec_yes hsec).1, EL.out, CE.out]
              exact ⟨A, i, p, B, i, q, rfl, HO2.out.farA (fun x hx => by have := HLA.out x hx; omega) _, HN2.out.farA (fun x hx => by have := HLB.out x hx; omega) _, fun x hx => Nat.le_of_lt (HLA.out x hx), fun x hx => Nat.le_of_lt (HLB.out x hx)⟩
          · have hsec : isSec s.data.toList = false := by
              cases hh : isSec s.data.toList
              · rfl
              · have := ((isSec_iff _).1 hh).2
                rw [EL.out, CE.out] at this
                exact absurd this heq
            obtain ⟨S, hS⟩ : ∃ S : ByteArray, Hid (secL ⟨g, e, a, v, evs l i, ods l i⟩ = S.data.toList) := ⟨⟨(secL ⟨g, e, a, v, evs l i, ods l i⟩).toArray⟩, Lib.hid (by simp)⟩
            have hne : (S.toList == s.toList) = false := by
              rw [ByteArray.toList_eq, ByteArray.toList_eq, beq_eq_false_iff_ne]
              intro hh
              exact heq (by rw [hS.out, hh, EL.out])
            clear heq
            go_wp2_with (with_reducible refine load_r rfl (.tmp 4) rfl bc rfl DD.out.k ?_)
            refine (R7.encode_yes g e a v A i p B i q (evs l i) (ods l i) S _ HO.out HN.out HF.out hok hS.out).mono ?_
            rintro e' wn ⟨rfl, hb⟩
            have Z := Lib.hid (DD.out.z.later hb)
            have BB := Lib.hid (Wd.Ge.trans DD.out.b hb)
            clear hb
            go_wp2_with (with_reducible refine store_r rfl (.tmp 2) (.tmp 72) rfl w.heap.size rfl rfl Z.out ?_)
            refine bodyPost_ret (res_r2 rfl _ _ w.heap.size rfl rfl (Z.out.row _)) rfl ⟨below_row BB.out (Nat.le_refl _) _, .agg #[.int .u64 0, .int .u32 0, .int .u64 0, .int .u64 0, .slice none 0 0, .slice none 0 0], ?_, ?_⟩
            · rw [(dec_no hsec).2]; rfl
            · rw [(dec_no hsec).1]; exact zero_new _ _
theorem decode_any (s : ByteArray) (w : World) (hs : s.size ≤ maxLen) : Calls Try.prog 14 #[.string s] w (DecP s w) := by
  by_cases h : s.size = 128
  · by_cases h2 : 16 < byteAt s.data.toList 28
    · exact decode_early s w hs (.inr ⟨h, h2⟩)
    · exact decode_main s w h _ (Lib.hid rfl) (by omega)
  · exact decode_early s w hs (.inl h)
end R7
end Go.Proofs.Ytdnkhjikfdalbaa
