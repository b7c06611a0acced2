/- What the statement of torn checkpoints needs: the plain fact, and the third checkpoint put together in whatever order. -/
import Derived.Test.YtdnkhjikfdalbaaCpP
namespace Go.Proofs.Ytdnkhjikfdalbaa
open Go.RowKit Go.Lib Wd Cr
set_option linter.unusedVariables false

theorem torn_best {c1 c2 : Chk} (f1 : Fits c1) (h1 : okC c1 = true) (f2 : Fits c2) (h2 : okC c2 = true) (hg : c1.g < c2.g) {Z : List UInt8} (hZ : Z.length = 128) (hz : ((getN (Z.drop 120) : Nat) : Int) < c1.g) (k : Nat) (hk : k ≤ 128) {M : List UInt8} (hM : M = (secL c2).take k ++ Z.drop k) :
    (M = secL c2 → bestC M (secL c1) = c2 ∧ bestI M (secL c1) = 0 ∧ bestE M (secL c1) = 0) ∧ (M ≠ secL c2 → bestC M (secL c1) = c1 ∧ bestI M (secL c1) = 1 ∧ bestE M (secL c1) = 0) := by
  have i1 := isSec_secL f1 h1
  have i2 := isSec_secL f2 h2
  have d1 : decC (secL c1) = c1 := by rw [(dec_yes i1).1, cutC_secL f1 h1]
  have d2 : decC (secL c2) = c2 := by rw [(dec_yes i2).1, cutC_secL f2 h2]
  have e : bestE M (secL c1) = 0 := bestE_yes (by rw [i1]; simp)
  refine ⟨fun h => ?_, fun h => ?_⟩
  · subst h
    unfold bestC bestI
    rw [d1, d2, if_neg (by omega), if_neg (by omega)]
    exact ⟨rfl, rfl, e⟩
  · have hlt : (decC M).g < c1.g := by
      have g0 := f1.g0
      have gn := ((okC_iff c1).1 h1).1.1
      cases hs : isSec M
      · rw [(dec_no hs).1]
        show (0 : Int) < c1.g
        omega
      · rw [(dec_yes hs).1]
        rw [hM] at hs h ⊢
        rcases torn f2 h2 hZ k hk hs with h' | h'
        · exact absurd h' h
        · rw [h']; exact hz
    unfold bestC bestI
    rw [d1, if_pos hlt, if_pos hlt]
    exact ⟨rfl, rfl, e⟩
theorem enc_ex {w : World} {g e l v : Int} {A : Option Addr} {m p : Nat} {B : Option Addr} {k q : Nat} {o n : List Int} (hA : Sl w A m o) (hB : Sl w B k n) (hm : m ≤ maxLen) (hf : Fits ⟨g, e, l, v, o, n⟩) : ∃ (S : ByteArray) (y : Int), Hid (EncAt w g e l v A m p B k q S y) ∧ S.size ≤ maxLen ∧ ((okC ⟨g, e, l, v, o, n⟩ = false ∧ y = 5) ∨ (okC ⟨g, e, l, v, o, n⟩ = true ∧ y = 0 ∧ secL ⟨g, e, l, v, o, n⟩ = S.data.toList ∧ S.size = 128)) := by
  cases h : okC ⟨g, e, l, v, o, n⟩
  · exact ⟨⟨#[]⟩, 5, enc_no hA hB hm hf.g0 hf.l0 h, by decide, .inl ⟨rfl, rfl⟩⟩
  · have z : (⟨(secL ⟨g, e, l, v, o, n⟩).toArray⟩ : ByteArray).size = 128 := by rw [Go.Lib.size_eq]; simp; exact secL_len h
    exact ⟨⟨(secL ⟨g, e, l, v, o, n⟩).toArray⟩, 0, enc_yes hA hB hf h (by simp), by rw [z]; decide, .inr ⟨rfl, rfl, by simp, z⟩⟩
theorem zeros_end : ((getN ((zeroTo 128).data.toList.drop 120) : Nat) : Int) = 0 := by kernel_rfl
theorem sec_end {c : Chk} (hf : Fits c) (h : okC c = true) : ((getN ((secL c).drop 120) : Nat) : Int) = c.g := by
  rw [secL_last h, getN_putL _ 8 (by omega), Nat.mod_eq_of_lt (by have := hf.g1; omega), Int.toNat_of_nonneg hf.g0]

theorem arrF143 {cs : Array Value} (h : cs.size = 143) : ∃ y : Nat → Value, (∀ i, cs.getD i undef = y i) ∧ cs = #[y 0, y 1, y 2, y 3, y 4, y 5, y 6, y 7, y 8, y 9, y 10, y 11, y 12, y 13, y 14, y 15, y 16, y 17, y 18, y 19, y 20, y 21, y 22, y 23, y 24, y 25, y 26, y 27, y 28, y 29, y 30, y 31, y 32, y 33, y 34, y 35, y 36, y 37, y 38, y 39, y 40, y 41, y 42, y 43, y 44, y 45, y 46, y 47, y 48, y 49, y 50, y 51, y 52, y 53, y 54, y 55, y 56, y 57, y 58, y 59, y 60, y 61, y 62, y 63, y 64, y 65, y 66, y 67, y 68, y 69, y 70, y 71, y 72, y 73, y 74, y 75, y 76, y 77, y 78, y 79, y 80, y 81, y 82, y 83, y 84, y 85, y 86, y 87, y 88, y 89, y 90, y 91, y 92, y 93, y 94, y 95, y 96, y 97, y 98, y 99, y 100, y 101, y 102, y 103, y 104, y 105, y 106, y 107, y 108, y 109, y 110, y 111, y 112, y 113, y 114, y 115, y 116, y 117, y 118, y 119, y 120, y 121, y 122, y 123, y 124, y 125, y 126, y 127, y 128, y 129, y 130, y 131, y 132, y 133, y 134, y 135, y 136, y 137, y 138, y 139, y 140, y 141, y 142] := by
  refine ⟨fun i => cs.getD i undef, fun _ => rfl, ?_⟩
  have e : cs = ((List.range 143).map fun i => cs.getD i undef).toArray := by
    apply Array.ext
    · simp [h]
    · intro i h1 h2
      simp [h1]
  exact e.trans rfl

/-- The three boxes, while the third one's checkpoint is laid anew, in whatever order. -/
structure T3 (w : World) (H : Nat) (cs0 cs1 cs2 vs : Array Value) (listed : Array Bool) (a : Act) (W : World) : Prop where
  b : Below w.heap.size w W
  k0 : Blk W w.heap.size 26 cs0
  k1 : Blk W (w.heap.size + 1) 26 cs1
  k2 : Blk W (w.heap.size + 1 + 1) 49 cs2
  hH : H ≤ W.heap.size
  ord : listed.getD 6 false = true → listed.getD 5 false = true
  blk : listed.getD 5 false = true → ∃ b, a.tmps.getD 7 undef = .pointer (some ⟨b, 0, none⟩) ∧ H ≤ b ∧ Blk W b 26 (if listed.getD 6 false = true then vs else csC 0 0 0 0 none 0 0 none 0 0)
section
variable {w : World} {H : Nat} {cs0 cs1 cs2 vs : Array Value} {listed : Array Bool} {a : Act} {W W' : World}
theorem T3.step (h : T3 w H cs0 cs1 cs2 vs listed a W) (i d : Nat) (v : Value) (hi : i ≠ 5) (hi' : i ≠ 6) (hd : d ≠ 7) (hb : Below W.heap.size W W') : T3 w H cs0 cs1 cs2 vs (listed.setIfInBounds i true) (a.put (some d) v) W' := by
  have e20 : (listed.setIfInBounds i true).getD 5 false = listed.getD 5 false := getD_set_ne false hi
  have e21 : (listed.setIfInBounds i true).getD 6 false = listed.getD 6 false := getD_set_ne false hi'
  refine ⟨Wd.Ge.trans h.b hb, h.k0.later hb, h.k1.later hb, h.k2.later hb, Nat.le_trans h.hH hb.size, by rw [e20, e21]; exact h.ord, ?_⟩
  rw [e20, e21]
  intro hl
  obtain ⟨b, h1, h2, h3⟩ := h.blk hl
  exact ⟨b, (Free.slot_ne v hd).trans h1, h2, h3.later hb⟩
theorem T3.alloc (h : T3 w H cs0 cs1 cs2 vs listed a W) (hsz : listed.size = 8) (ha : 7 < a.tmps.size) (hno : listed.getD 5 true = false) : T3 w H cs0 cs1 cs2 vs (listed.setIfInBounds 5 true) (a.put (some 7) (.pointer (some ⟨W.heap.size, 0, none⟩))) (W.alloc (.cells (csC 0 0 0 0 none 0 0 none 0 0) 26)) := by
  have e21 : (listed.setIfInBounds 5 true).getD 6 false = listed.getD 6 false := getD_set_ne false (by omega)
  have e20 : (listed.setIfInBounds 5 true).getD 5 false = true := by simp [hsz]
  have f20 : listed.getD 5 false = false := by
    simp only [Array.getD_eq_getD_getElem?] at hno ⊢
    have : listed[5]? = some (listed[5]'(by omega)) := Array.getElem?_eq_getElem (by omega)
    rw [this] at hno ⊢
    exact hno
  have f21 : ¬ listed.getD 6 false = true := fun hh => by have := h.ord hh; rw [f20] at this; exact absurd this (by decide)
  have hb := below1 W (.cells (csC 0 0 0 0 none 0 0 none 0 0) 26)
  refine ⟨Wd.Ge.trans h.b hb, h.k0.later hb, h.k1.later hb, h.k2.later hb, Nat.le_trans h.hH hb.size, fun _ => e20, fun _ => ⟨W.heap.size, ?_, h.hH, ?_⟩⟩
  · unfold Act.put
    simp [ha]
  · rw [e21, if_neg f21]
    exact Blk.new _ _ _
theorem T3.store (h : T3 w H cs0 cs1 cs2 vs listed a W) (hsz : listed.size = 8) (hl : listed.getD 5 false = true) (q1 : w.heap.size + 1 + 1 < H) {b : Nat} (hs : a.tmps.getD 7 undef = .pointer (some ⟨b, 0, none⟩)) :
    T3 w H cs0 cs1 cs2 vs (listed.setIfInBounds 6 true) (a.put none undef) (W.setRow b vs) := by
  obtain ⟨b', h1, h2, h3⟩ := h.blk hl
  have eb : b' = b := by rw [hs] at h1; injection h1 with h1; injection h1 with h1; injection h1 with h1; exact h1.symm
  subst eb
  have e21 : (listed.setIfInBounds 6 true).getD 6 false = true := by simp [hsz]
  have e20 : (listed.setIfInBounds 6 true).getD 5 false = listed.getD 5 false := getD_set_ne false (by omega)
  refine ⟨below_row h.b (by omega) _, h.k0.far (by omega) _, h.k1.far (by omega) _, h.k2.far (by omega) _, by rw [row_size]; exact h.hH, fun _ => by rw [e20]; exact hl, fun _ => ⟨b', hs, h2, ?_⟩⟩
  rw [e21, if_pos rfl]
  exact h3.row _
end
/-- A third one's cells. -/
def csT (g e l v : Int) (A : Option Addr) (m p : Nat) (B : Option Addr) (k q : Nat) (t : Int) : Array Value := #[.int .u64 g, .int .u32 e, .int .u64 l, .int .u64 v, .slice A m p, .slice B k q, .int .u8 t]
end Go.Proofs.Ytdnkhjikfdalbaa
