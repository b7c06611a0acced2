/- Contracts of record's cut, with its two closures: the fields of any text, as a record; no memory that was there is changed. -/
import Derived.Test.YtgpcfdkblkkpeaaRecE
import Derived.Deep.MidRow
import Derived.Laws.ResultCell
namespace Go.Proofs.Ytgpcfdkblkkpeaa
open Go.RowKit Go.Lib Wd Cr Ck
set_option linter.unusedVariables false

theorem ext_take (r : ByteArray) (n : Nat) : (r.extract 0 n).data.toList = r.data.toList.take n := by
  simp [ByteArray.data_extract]
theorem ext_drop (r : ByteArray) (n m : Nat) (h : r.size ≤ m) : (r.extract n m).data.toList = r.data.toList.drop n := by
  simp only [ByteArray.data_extract, Array.toList_extract, List.extract_eq_take_drop]
  rw [List.take_of_length_le]
  rw [List.length_drop, ← Go.Lib.size_eq]; omega
theorem bytes_ext {S T : ByteArray} (h : S.data.toList = T.data.toList) : S = T := by
  apply ByteArray.ext; exact Array.toList_inj.1 h

set_option maxHeartbeats 1000000 in
theorem text_any (b n : Nat) (r T D : ByteArray) (w : World) (hc : w.cell? ⟨b, 0, none⟩ = some (.string r)) (hF : w.frozen? ⟨b, 0, none⟩ = false) (hr : r.size ≤ maxLen) (hn : n < 256)
    (hT : r.data.toList.take n = T.data.toList) (hD : r.data.toList.drop n = D.data.toList) :
    Calls Try.prog 38 #[.int .i64 n, .pointer (some ⟨b, 0, none⟩)] w fun e' w' => e' = .returned (.string T) ∧ w' = w.setCell ⟨b, 0, none⟩ (.string D) := by
  unfold maxLen at hr
  have hni : (n : Int) < 256 := by omega
  have hz := Go.Lib.size_eq r
  have E1 : Hid (r.extract 0 (min (n : Int) (r.size : Int)).toNat = T) := by
    refine Lib.hid (bytes_ext ?_)
    rw [ext_take, ← hT, List.take_eq_take_iff]; omega
  have E2 : Hid (r.extract (min (n : Int) (r.size : Int)).toNat r.size = D) := by
    refine Lib.hid (bytes_ext ?_)
    rw [ext_drop _ _ _ (Nat.le_refl _), ← hD]
    by_cases h : n ≤ r.size
    · have e : (min (n : Int) (r.size : Int)).toNat = n := by omega
      rw [e]
    · rw [List.drop_of_length_le (by omega), List.drop_of_length_le (by omega)]
  clear hT hD hz
  go_enter Try.func38, Try.ntmps38
  go_wp2_with fail
  go_ret
  exact ⟨by rw [← E1.out]; rfl, by rw [E2.out]⟩

theorem size_setCell (W : World) (p : Addr) (v : Value) : (W.setCell p v).heap.size = W.heap.size := by simp [World.setCell]

/-- Where cut is: what is left of the text, the closure, and the record so far, in four new blocks. -/
structure CutW (w : World) (N : Nat) (r : ByteArray) (l e k v d : Int) (i a : ByteArray) (W : World) : Prop where
  b : Below N w W
  sz : N + 4 ≤ W.heap.size
  rest : W.cell? ⟨N + 1, 0, none⟩ = some (.string r)
  restF : W.frozen? ⟨N + 1, 0, none⟩ = false
  fn : W.cell? ⟨N + 1 + 1, 0, none⟩ = some (.func (.func 38) #[] #[.pointer (some ⟨N + 1, 0, none⟩)])
  m : LiesR W (N + 1 + 1 + 1) l e k v d i a
  mF : ∀ j, j < 7 → W.frozen? ⟨N + 1 + 1 + 1, j, none⟩ = false
  o : LiesR W N 0 0 0 0 0 ⟨#[]⟩ ⟨#[]⟩
  oF : ∀ j, j < 7 → W.frozen? ⟨N, j, none⟩ = false
theorem CutW.later {w W W' : World} {N : Nat} {r : ByteArray} {l e k v d : Int} {i a : ByteArray} (h : CutW w N r l e k v d i a W) (hb : Below W.heap.size W W') : CutW w N r l e k v d i a W' :=
  have hs := h.sz
  ⟨h.b.trans (hb.mono (by omega)), Nat.le_trans hs hb.size, ((bcell hb).1 _ _ (by omega)).trans h.rest, ((bcell hb).2 _ _ (by omega)).trans h.restF, ((bcell hb).1 _ _ (by omega)).trans h.fn, h.m.later hb,
    fun j hj => ((bcell hb).2 _ _ (by omega)).trans (h.mF j hj), h.o.later hb, fun j hj => ((bcell hb).2 _ _ (by omega)).trans (h.oF j hj)⟩
theorem there_set {W : World} {B o n : Nat} (h : W.there B o n) (p : Addr) (v : Value) : (W.setCell p v).there B o n := fun j hj => by
  refine ⟨?_, by rw [World.frozen?_setCell]; exact (h j hj).2⟩
  obtain ⟨u, hu⟩ := Option.isSome_iff_exists.1 (h j hj).1
  by_cases e : p = ⟨B, o + j, none⟩
  · subst e; rw [World.cell?_setCell_same _ _ _ hu]; rfl
  · rw [World.cell?_setCell_other _ _ _ _ e, hu]; rfl
theorem ne_b {b b' o o' : Nat} (h : b ≠ b') : (⟨b, o, none⟩ : Addr) ≠ ⟨b', o', none⟩ := by intro e; injection e with e1 _; exact h e1
theorem ne_o {b o o' : Nat} (h : o ≠ o') : (⟨b, o, none⟩ : Addr) ≠ ⟨b, o', none⟩ := by intro e; injection e with _ e1; exact h e1
theorem liesR_set {W : World} {B : Nat} {l e k v d : Int} {i a : ByteArray} (h : LiesR W B l e k v d i a) (b o : Nat) (u : Value) (hb : b ≠ B) : LiesR (W.setCell ⟨b, o, none⟩ u) B l e k v d i a := by
  refine ⟨by rw [size_setCell]; exact h.lt, ?_, ?_, ?_, ?_, ?_, ?_, ?_⟩ <;> rw [World.cell?_setCell_other _ _ _ _ (ne_b hb)]
  · exact h.c0
  · exact h.c1
  · exact h.c2
  · exact h.c3
  · exact h.c4
  · exact h.c5
  · exact h.c6
theorem CutW.setRest {w W : World} {N : Nat} {r : ByteArray} {l e k v d : Int} {i a : ByteArray} (h : CutW w N r l e k v d i a W) (D : ByteArray) : CutW w N D l e k v d i a (W.setCell ⟨N + 1, 0, none⟩ (.string D)) :=
  ⟨h.b.setCell (by show N ≤ N + 1; omega) _, by rw [size_setCell]; exact h.sz, World.cell?_setCell_same _ _ _ h.rest, by rw [World.frozen?_setCell]; exact h.restF,
    by rw [World.cell?_setCell_other _ _ _ _ (ne_b (by omega))]; exact h.fn, liesR_set h.m _ _ _ (by omega), fun j hj => by rw [World.frozen?_setCell]; exact h.mF j hj, liesR_set h.o _ _ _ (by omega), fun j hj => by rw [World.frozen?_setCell]; exact h.oF j hj⟩
theorem CutW.set0 {w W : World} {N : Nat} {r : ByteArray} {l e k v d : Int} {i a : ByteArray} (h : CutW w N r l e k v d i a W) (x : Int) : CutW w N r x e k v d i a (W.setCell ⟨N + 1 + 1 + 1, 0, none⟩ (.int .u64 x)) :=
  ⟨h.b.setCell (by show N ≤ N + 1 + 1 + 1; omega) _, by rw [size_setCell]; exact h.sz, by rw [World.cell?_setCell_other _ _ _ _ (ne_b (by omega))]; exact h.rest, by rw [World.frozen?_setCell]; exact h.restF,
    by rw [World.cell?_setCell_other _ _ _ _ (ne_b (by omega))]; exact h.fn, ⟨by rw [size_setCell]; exact h.m.lt, World.cell?_setCell_same _ _ _ h.m.c0, by rw [World.cell?_setCell_other _ _ _ _ (ne_o (by omega))]; exact h.m.c1, by rw [World.cell?_setCell_other _ _ _ _ (ne_o (by omega))]; exact h.m.c2, by rw [World.cell?_setCell_other _ _ _ _ (ne_o (by omega))]; exact h.m.c3, by rw [World.cell?_setCell_other _ _ _ _ (ne_o (by omega))]; exact h.m.c4, by rw [World.cell?_setCell_other _ _ _ _ (ne_o (by omega))]; exact h.m.c5, by rw [World.cell?_setCell_other _ _ _ _ (ne_o (by omega))]; exact h.m.c6⟩, fun j hj => by rw [World.frozen?_setCell]; exact h.mF j hj, liesR_set h.o _ _ _ (by omega), fun j hj => by rw [World.frozen?_setCell]; exact h.oF j hj⟩
theorem CutW.set1 {w W : World} {N : Nat} {r : ByteArray} {l e k v d : Int} {i a : ByteArray} (h : CutW w N r l e k v d i a W) (x : Int) : CutW w N r l x k v d i a (W.setCell ⟨N + 1 + 1 + 1, 1, none⟩ (.int .u32 x)) :=
  ⟨h.b.setCell (by show N ≤ N + 1 + 1 + 1; omega) _, by rw [size_setCell]; exact h.sz, by rw [World.cell?_setCell_other _ _ _ _ (ne_b (by omega))]; exact h.rest, by rw [World.frozen?_setCell]; exact h.restF,
    by rw [World.cell?_setCell_other _ _ _ _ (ne_b (by omega))]; exact h.fn, ⟨by rw [size_setCell]; exact h.m.lt, by rw [World.cell?_setCell_other _ _ _ _ (ne_o (by omega))]; exact h.m.c0, World.cell?_setCell_same _ _ _ h.m.c1, by rw [World.cell?_setCell_other _ _ _ _ (ne_o (by omega))]; exact h.m.c2, by rw [World.cell?_setCell_other _ _ _ _ (ne_o (by omega))]; exact h.m.c3, by rw [World.cell?_setCell_other _ _ _ _ (ne_o (by omega))]; exact h.m.c4, by rw [World.cell?_setCell_other _ _ _ _ (ne_o (by omega))]; exact h.m.c5, by rw [World.cell?_setCell_other _ _ _ _ (ne_o (by omega))]; exact h.m.c6⟩, fun j hj => by rw [World.frozen?_setCell]; exact h.mF j hj, liesR_set h.o _ _ _ (by omega), fun j hj => by rw [World.frozen?_setCell]; exact h.oF j hj⟩
theorem CutW.set2 {w W : World} {N : Nat} {r : ByteArray} {l e k v d : Int} {i a : ByteArray} (h : CutW w N r l e k v d i a W) (x : Int) : CutW w N r l e x v d i a (W.setCell ⟨N + 1 + 1 + 1, 2, none⟩ (.int .i64 x)) :=
  ⟨h.b.setCell (by show N ≤ N + 1 + 1 + 1; omega) _, by rw [size_setCell]; exact h.sz, by rw [World.cell?_setCell_other _ _ _ _ (ne_b (by omega))]; exact h.rest, by rw [World.frozen?_setCell]; exact h.restF,
    by rw [World.cell?_setCell_other _ _ _ _ (ne_b (by omega))]; exact h.fn, ⟨by rw [size_setCell]; exact h.m.lt, by rw [World.cell?_setCell_other _ _ _ _ (ne_o (by omega))]; exact h.m.c0, by rw [World.cell?_setCell_other _ _ _ _ (ne_o (by omega))]; exact h.m.c1, World.cell?_setCell_same _ _ _ h.m.c2, by rw [World.cell?_setCell_other _ _ _ _ (ne_o (by omega))]; exact h.m.c3, by rw [World.cell?_setCell_other _ _ _ _ (ne_o (by omega))]; exact h.m.c4, by rw [World.cell?_setCell_other _ _ _ _ (ne_o (by omega))]; exact h.m.c5, by rw [World.cell?_setCell_other _ _ _ _ (ne_o (by omega))]; exact h.m.c6⟩, fun j hj => by rw [World.frozen?_setCell]; exact h.mF j hj, liesR_set h.o _ _ _ (by omega), fun j hj => by rw [World.frozen?_setCell]; exact h.oF j hj⟩
theorem CutW.set3 {w W : World} {N : Nat} {r : ByteArray} {l e k v d : Int} {i a : ByteArray} (h : CutW w N r l e k v d i a W) (x : Int) : CutW w N r l e k x d i a (W.setCell ⟨N + 1 + 1 + 1, 3, none⟩ (.int .u64 x)) :=
  ⟨h.b.setCell (by show N ≤ N + 1 + 1 + 1; omega) _, by rw [size_setCell]; exact h.sz, by rw [World.cell?_setCell_other _ _ _ _ (ne_b (by omega))]; exact h.rest, by rw [World.frozen?_setCell]; exact h.restF,
    by rw [World.cell?_setCell_other _ _ _ _ (ne_b (by omega))]; exact h.fn, ⟨by rw [size_setCell]; exact h.m.lt, by rw [World.cell?_setCell_other _ _ _ _ (ne_o (by omega))]; exact h.m.c0, by rw [World.cell?_setCell_other _ _ _ _ (ne_o (by omega))]; exact h.m.c1, by rw [World.cell?_setCell_other _ _ _ _ (ne_o (by omega))]; exact h.m.c2, World.cell?_setCell_same _ _ _ h.m.c3, by rw [World.cell?_setCell_other _ _ _ _ (ne_o (by omega))]; exact h.m.c4, by rw [World.cell?_setCell_other _ _ _ _ (ne_o (by omega))]; exact h.m.c5, by rw [World.cell?_setCell_other _ _ _ _ (ne_o (by omega))]; exact h.m.c6⟩, fun j hj => by rw [World.frozen?_setCell]; exact h.mF j hj, liesR_set h.o _ _ _ (by omega), fun j hj => by rw [World.frozen?_setCell]; exact h.oF j hj⟩
theorem CutW.set4 {w W : World} {N : Nat} {r : ByteArray} {l e k v d : Int} {i a : ByteArray} (h : CutW w N r l e k v d i a W) (x : Int) : CutW w N r l e k v x i a (W.setCell ⟨N + 1 + 1 + 1, 4, none⟩ (.int .u64 x)) :=
  ⟨h.b.setCell (by show N ≤ N + 1 + 1 + 1; omega) _, by rw [size_setCell]; exact h.sz, by rw [World.cell?_setCell_other _ _ _ _ (ne_b (by omega))]; exact h.rest, by rw [World.frozen?_setCell]; exact h.restF,
    by rw [World.cell?_setCell_other _ _ _ _ (ne_b (by omega))]; exact h.fn, ⟨by rw [size_setCell]; exact h.m.lt, by rw [World.cell?_setCell_other _ _ _ _ (ne_o (by omega))]; exact h.m.c0, by rw [World.cell?_setCell_other _ _ _ _ (ne_o (by omega))]; exact h.m.c1, by rw [World.cell?_setCell_other _ _ _ _ (ne_o (by omega))]; exact h.m.c2, by rw [World.cell?_setCell_other _ _ _ _ (ne_o (by omega))]; exact h.m.c3, World.cell?_setCell_same _ _ _ h.m.c4, by rw [World.cell?_setCell_other _ _ _ _ (ne_o (by omega))]; exact h.m.c5, by rw [World.cell?_setCell_other _ _ _ _ (ne_o (by omega))]; exact h.m.c6⟩, fun j hj => by rw [World.frozen?_setCell]; exact h.mF j hj, liesR_set h.o _ _ _ (by omega), fun j hj => by rw [World.frozen?_setCell]; exact h.oF j hj⟩
theorem CutW.set5 {w W : World} {N : Nat} {r : ByteArray} {l e k v d : Int} {i a : ByteArray} (h : CutW w N r l e k v d i a W) (x : ByteArray) : CutW w N r l e k v d x a (W.setCell ⟨N + 1 + 1 + 1, 5, none⟩ (.string x)) :=
  ⟨h.b.setCell (by show N ≤ N + 1 + 1 + 1; omega) _, by rw [size_setCell]; exact h.sz, by rw [World.cell?_setCell_other _ _ _ _ (ne_b (by omega))]; exact h.rest, by rw [World.frozen?_setCell]; exact h.restF,
    by rw [World.cell?_setCell_other _ _ _ _ (ne_b (by omega))]; exact h.fn, ⟨by rw [size_setCell]; exact h.m.lt, by rw [World.cell?_setCell_other _ _ _ _ (ne_o (by omega))]; exact h.m.c0, by rw [World.cell?_setCell_other _ _ _ _ (ne_o (by omega))]; exact h.m.c1, by rw [World.cell?_setCell_other _ _ _ _ (ne_o (by omega))]; exact h.m.c2, by rw [World.cell?_setCell_other _ _ _ _ (ne_o (by omega))]; exact h.m.c3, by rw [World.cell?_setCell_other _ _ _ _ (ne_o (by omega))]; exact h.m.c4, World.cell?_setCell_same _ _ _ h.m.c5, by rw [World.cell?_setCell_other _ _ _ _ (ne_o (by omega))]; exact h.m.c6⟩, fun j hj => by rw [World.frozen?_setCell]; exact h.mF j hj, liesR_set h.o _ _ _ (by omega), fun j hj => by rw [World.frozen?_setCell]; exact h.oF j hj⟩
theorem CutW.set6 {w W : World} {N : Nat} {r : ByteArray} {l e k v d : Int} {i a : ByteArray} (h : CutW w N r l e k v d i a W) (x : ByteArray) : CutW w N r l e k v d i x (W.setCell ⟨N + 1 + 1 + 1, 6, none⟩ (.string x)) :=
  ⟨h.b.setCell (by show N ≤ N + 1 + 1 + 1; omega) _, by rw [size_setCell]; exact h.sz, by rw [World.cell?_setCell_other _ _ _ _ (ne_b (by omega))]; exact h.rest, by rw [World.frozen?_setCell]; exact h.restF,
    by rw [World.cell?_setCell_other _ _ _ _ (ne_b (by omega))]; exact h.fn, ⟨by rw [size_setCell]; exact h.m.lt, by rw [World.cell?_setCell_other _ _ _ _ (ne_o (by omega))]; exact h.m.c0, by rw [World.cell?_setCell_other _ _ _ _ (ne_o (by omega))]; exact h.m.c1, by rw [World.cell?_setCell_other _ _ _ _ (ne_o (by omega))]; exact h.m.c2, by rw [World.cell?_setCell_other _ _ _ _ (ne_o (by omega))]; exact h.m.c3, by rw [World.cell?_setCell_other _ _ _ _ (ne_o (by omega))]; exact h.m.c4, by rw [World.cell?_setCell_other _ _ _ _ (ne_o (by omega))]; exact h.m.c5, World.cell?_setCell_same _ _ _ h.m.c6⟩, fun j hj => by rw [World.frozen?_setCell]; exact h.mF j hj, liesR_set h.o _ _ _ (by omega), fun j hj => by rw [World.frozen?_setCell]; exact h.oF j hj⟩

theorem textC {w W : World} {N : Nat} {r : ByteArray} {l e k v d : Int} {i a : ByteArray} (h : CutW w N r l e k v d i a W) (n : Nat) (z : Int) (hz : (n : Int) = z) (T D : ByteArray) (hr : r.size ≤ maxLen) (hn : n < 256)
    (hT : r.data.toList.take n = T.data.toList) (hD : r.data.toList.drop n = D.data.toList) :
    Calls Try.prog 38 #[.int .i64 z, .pointer (some ⟨N + 1, 0, none⟩)] W fun e' W' => e' = .returned (.string T) ∧ CutW w N D l e k v d i a W' :=
  hz ▸ (text_any (N + 1) n r T D W h.rest h.restF hr hn hT hD).mono fun _ _ ⟨he, hw⟩ => ⟨he, hw ▸ h.setRest D⟩

set_option maxHeartbeats 1000000 in
theorem numberC {w W : World} {N : Nat} {r : ByteArray} {l e k v d : Int} {i a : ByteArray} (h : CutW w N r l e k v d i a W) (n : Nat) (z : Int) (hz : (n : Int) = z) (T D : ByteArray) (g : Int) (hr : r.size ≤ maxLen) (hn : n < 256)
    (hT : r.data.toList.take n = T.data.toList) (hD : r.data.toList.drop n = D.data.toList) (hg : (getN T.data.toList : Int) = g) :
    Calls Try.prog 39 #[.int .i64 z, .pointer (some ⟨N + 1 + 1, 0, none⟩)] W fun e' W' => e' = .returned (.int .u64 g) ∧ CutW w N D l e k v d i a W' := by
  have C := Lib.hid (textC h n z hz T D hr hn hT hD)
  have F := h.fn
  clear hT hD hz
  go_enter Try.func39, Try.ntmps39
  go_wp2_with fail
  refine C.out.mono ?_
  rintro e' w1 ⟨rfl, h1⟩
  go_wp2_with fail
  refine (Wd.get_at T g _ hg).mono ?_
  rintro e' w2 ⟨rfl, hb⟩
  go_wp2_with fail
  go_ret
  exact ⟨rfl, h1.later hb⟩

theorem clone_any (s : ByteArray) (w : World) (hs : s.size ≤ 281474976710656) :
    Calls Try.prog 41 #[.string s] w fun e' w' => e' = .returned (.string s) ∧ Below w.heap.size w w' := by
  have C := Lib.hid (fun w => Sh.stringslite_Clone s w hs)
  go_enter Try.func41, Try.ntmps41
  go_wp2_with fail
  refine (C.out _).mono ?_
  rintro e' w1 ⟨rfl, hb⟩
  go_wp2_with fail
  go_ret
  exact ⟨rfl, hb⟩

theorem info_rec : (Try.prog.info? 25).map (·.size) = some 7 := by kernel_rfl

/-- A record that lies at a block is read. -/
theorem load_rec {W : World} {B : Nat} {l e k v d : Int} {i a : ByteArray} (h : LiesR W B l e k v d i a) : (loadVar 25 ⟨B, 0, none⟩).run Try.prog W = .ok (.agg #[.int .u64 l, .int .u32 e, .int .i64 k, .int .u64 v, .int .u64 d, .string i, .string a]) W := by
  have hr : W.rangeAt B 0 [.int .u64 l, .int .u32 e, .int .i64 k, .int .u64 v, .int .u64 d, .string i, .string a] := by
    intro j u hj
    match j, hj with
    | 0, hj => cases hj; exact h.c0
    | 1, hj => cases hj; exact h.c1
    | 2, hj => cases hj; exact h.c2
    | 3, hj => cases hj; exact h.c3
    | 4, hj => cases hj; exact h.c4
    | 5, hj => cases hj; exact h.c5
    | 6, hj => cases hj; exact h.c6
    | j + 7, hj => simp at hj
  exact run_loadVar_mid W B 0 25 _ _ hr Try.underlying25 rfl info_rec

/-- A record is stored. -/
theorem liesR_put {W : World} {B : Nat} (l e k v d : Int) (i a : ByteArray) (h : W.there B 0 7) (hB : B < W.heap.size) : LiesR (W.setCells B 0 (Array.toList #[.int .u64 l, .int .u32 e, .int .i64 k, .int .u64 v, .int .u64 d, .string i, .string a])) B l e k v d i a := by
  have hr := World.rangeAt_setCells_same W B 0 [.int .u64 l, .int .u32 e, .int .i64 k, .int .u64 v, .int .u64 d, .string i, .string a] h
  have hz : (W.setCells B 0 [.int .u64 l, .int .u32 e, .int .i64 k, .int .u64 v, .int .u64 d, .string i, .string a]).heap.size = W.heap.size := by simp [World.setCells]
  exact ⟨by rw [hz]; exact hB, hr 0 _ rfl, hr 1 _ rfl, hr 2 _ rfl, hr 3 _ rfl, hr 4 _ rfl, hr 5 _ rfl, hr 6 _ rfl⟩

theorem there_of {W : World} {B : Nat} {l e k v d : Int} {i a : ByteArray} (h : LiesR W B l e k v d i a) (hF : ∀ j, j < 7 → W.frozen? ⟨B, j, none⟩ = false) : W.there B 0 7 := by
  intro j hj
  rw [Nat.zero_add]
  refine ⟨?_, hF j hj⟩
  match j, hj with
  | 0, _ => rw [h.c0]; rfl
  | 1, _ => rw [h.c1]; rfl
  | 2, _ => rw [h.c2]; rfl
  | 3, _ => rw [h.c3]; rfl
  | 4, _ => rw [h.c4]; rfl
  | 5, _ => rw [h.c5]; rfl
  | 6, _ => rw [h.c6]; rfl

theorem res_rec1 {fn : Func} {p : Tmp} (h : fn.results = #[.cell p 25]) (tmps : Array Value) (W : World) (B : Nat) {l e k v d : Int} {i a : ByteArray} (hp : tmps.getD p undef = .pointer (some ⟨B, 0, none⟩)) (L : LiesR W B l e k v d i a) :
    (results fn tmps).run Try.prog W = .ok (.agg #[.int .u64 l, .int .u32 e, .int .i64 k, .int .u64 v, .int .u64 d, .string i, .string a]) W := by
  have hp' : tmps[p]?.getD undef = .pointer (some ⟨B, 0, none⟩) := by simpa using hp
  simp [results, h, hp', asAddr, load_rec L]
theorem res_rec2 {fn : Func} {p u : Tmp} (h : fn.results = #[.cell p 25, .tmp u]) (tmps : Array Value) (W : World) (B : Nat) {l e k v d : Int} {i a : ByteArray} (hp : tmps.getD p undef = .pointer (some ⟨B, 0, none⟩)) (L : LiesR W B l e k v d i a) :
    (results fn tmps).run Try.prog W = .ok (.tuple #[.agg #[.int .u64 l, .int .u32 e, .int .i64 k, .int .u64 v, .int .u64 d, .string i, .string a], tmps.getD u undef]) W := by
  have hp' : tmps[p]?.getD undef = .pointer (some ⟨B, 0, none⟩) := by simpa using hp
  rw [results_cell_tmp h]
  simp [hp', asAddr, load_rec L, Result.andThen]

theorem below_put {B b : Nat} {a : World} (hb : B ≤ b) : ∀ (vs : List Value) (o : Nat) (w : World), Below B a w → Below B a (w.setCells b o vs)
  | [], _, _, h => h
  | v :: r, o, w, h => below_put hb r (o + 1) _ (h.setCell (by exact hb) v)

theorem cutW0 (s : ByteArray) (w : World) : CutW w w.heap.size s 0 0 0 0 0 ⟨#[]⟩ ⟨#[]⟩ ((((w.alloc (.cells #[.int .u64 0, .int .u32 0, .int .i64 0, .int .u64 0, .int .u64 0, .string ⟨#[]⟩, .string ⟨#[]⟩] 25)).alloc (.cells #[.string s] 9)).alloc (.cells #[.func (.func 38) #[] #[.pointer (some ⟨w.heap.size + 1, 0, none⟩)]] 64)).alloc (.cells #[.int .u64 0, .int .u32 0, .int .i64 0, .int .u64 0, .int .u64 0, .string ⟨#[]⟩, .string ⟨#[]⟩] 25)) := by
  refine ⟨?_, ?_, ?_, ?_, ?_, ?_, ?_, ?_, ?_⟩
  · exact ((((Below.refl _ _).alloc (Nat.le_refl _) _).alloc (by simp) _).alloc (by simp; omega) _).alloc (by simp; omega) _
  · simp
  · simp [go_sem]
  · simp [go_sem]
  · simp [go_sem]
  · have := layR 0 0 0 0 0 ⟨#[]⟩ ⟨#[]⟩ 25 (((w.alloc (.cells #[.int .u64 0, .int .u32 0, .int .i64 0, .int .u64 0, .int .u64 0, .string ⟨#[]⟩, .string ⟨#[]⟩] 25)).alloc (.cells #[.string s] 9)).alloc (.cells #[.func (.func 38) #[] #[.pointer (some ⟨w.heap.size + 1, 0, none⟩)]] 64))
    simpa using this
  · intro j hj
    simp [go_sem]
  · exact (((layR 0 0 0 0 0 ⟨#[]⟩ ⟨#[]⟩ 25 w).later ((Below.refl _ _).alloc (Nat.le_refl _) _)).later ((Below.refl _ _).alloc (Nat.le_refl _) _)).later ((Below.refl _ _).alloc (Nat.le_refl _) _)
  · intro j hj
    simp [go_sem]

theorem put7 {W : World} {B : Nat} (l e k v d : Int) (i a : ByteArray) (h : W.there B 0 7) (hB : B < W.heap.size) : LiesR (((((((W.setCell ⟨B, 0, none⟩ (.int .u64 l)).setCell ⟨B, 1, none⟩ (.int .u32 e)).setCell ⟨B, 2, none⟩ (.int .i64 k)).setCell ⟨B, 3, none⟩ (.int .u64 v)).setCell ⟨B, 4, none⟩ (.int .u64 d)).setCell ⟨B, 5, none⟩ (.string i)).setCell ⟨B, 6, none⟩ (.string a)) B l e k v d i a := by
  have := liesR_put l e k v d i a h hB
  simpa only [World.setCells, Nat.zero_add, Nat.reduceAdd] using this
theorem below7 {W w : World} {B N : Nat} (l e k v d : Int) (i a : ByteArray) (hb : Below N w W) (hN : N ≤ B) : Below N w (((((((W.setCell ⟨B, 0, none⟩ (.int .u64 l)).setCell ⟨B, 1, none⟩ (.int .u32 e)).setCell ⟨B, 2, none⟩ (.int .i64 k)).setCell ⟨B, 3, none⟩ (.int .u64 v)).setCell ⟨B, 4, none⟩ (.int .u64 d)).setCell ⟨B, 5, none⟩ (.string i)).setCell ⟨B, 6, none⟩ (.string a)) :=
  ((((((hb.setCell hN _).setCell hN _).setCell hN _).setCell hN _).setCell hN _).setCell hN _).setCell hN _

theorem dropE (s : ByteArray) (n : Nat) : ∃ D : ByteArray, Hid (s.data.toList.drop n = D.data.toList) ∧ D.size ≤ s.size :=
  ⟨⟨(s.data.toList.drop n).toArray⟩, Lib.hid (by simp), by rw [Go.Lib.size_eq, Go.Lib.size_eq]; simp⟩
theorem takeE (l : List UInt8) (n : Nat) : ∃ T : ByteArray, Hid (l.take n = T.data.toList) := ⟨⟨(l.take n).toArray⟩, Lib.hid (by simp)⟩
theorem drop_step {s D D' : ByteArray} {n m k : Nat} (h : s.data.toList.drop n = D.data.toList) (h' : s.data.toList.drop k = D'.data.toList) (e : n + m = k) : D.data.toList.drop m = D'.data.toList := by
  rw [← h, List.drop_drop, e, h']

end Go.Proofs.Ytgpcfdkblkkpeaa
