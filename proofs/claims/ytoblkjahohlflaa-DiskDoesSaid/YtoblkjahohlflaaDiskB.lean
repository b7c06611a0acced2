/- Contracts of Read, do, Write of package disk over a disk that lies in memory. -/
import Derived.Test.YtoblkjahohlflaaDiskA
import Derived.Laws.BytesArg
import Derived.StillTailTactics
namespace Go.Proofs.Ytoblkjahohlflaa
open Go.RowKit Go.MapKept Go.Lib
set_option linter.unusedVariables false

theorem sec_at (x : ByteArray) (j : Nat) (hj : j < x.size) : (secA x)[j]? = some (.int .u8 ((((x.data.toList.map fun b => ((b.toNat : Nat) : Int)).getD j 0 : Int)))) := by
  have : j < x.data.toList.length := by simpa using hj
  simp [secA, secL, List.getD, List.getElem?_map, List.getElem?_eq_getElem this]

/-- A sector's cells, back as a string. -/
theorem conv_sec (w : World) (g : Nat) (t : TypeId) (x : ByteArray) (hx : x.size = 128) (hb : Blk w g t (secA x)) :
    (convert 68 9 (.slice (some ⟨g, 0, none⟩) 128 128)).run Try.prog w = .ok (.string x) w := by
  have := run_convert_bytes_arg (P := Try.prog) w 68 5 Try.underlying68 Try.underlying5 g 0 128 128 (x.data.toList.map fun b => ((b.toNat : Nat) : Int)) (by rw [List.length_map, len_data, hx]) (fun i hi => by
    rw [Nat.zero_add, hb.cell, sec_at x i (by omega)]) 9 Try.underlying9
  rw [this]
  congr 2
  unfold strOfNums
  rw [List.map_map]
  have e : (x.data.toList.map ((fun x : Int => UInt8.ofNat x.toNat) ∘ fun b : UInt8 => ((b.toNat : Nat) : Int))) = x.data.toList := by
    conv => rhs; rw [← List.map_id x.data.toList]
    apply List.map_congr_left
    intro b _
    simp
  rw [e]

theorem flat_at : ∀ (l : List (Int × ByteArray)), (∀ p ∈ l, p.2.size = 128) → ∀ (k : Nat) (p : Int × ByteArray), l[k]? = some p → ∀ j, j < 129 → (l.flatMap wrL)[k * 129 + j]? = (wrL p)[j]?
  | [], _, k, p, h, _, _ => by simp at h
  | q :: r, hl, 0, p, h, j, hj => by
    have e : q = p := by simpa using h
    subst e
    have hq := hl q (by simp)
    rw [List.flatMap_cons, List.getElem?_append_left (by rw [wrL_len]; omega)]
    simp
  | q :: r, hl, k + 1, p, h, j, hj => by
    have hq := hl q (by simp)
    rw [List.flatMap_cons, List.getElem?_append_right (by rw [wrL_len]; omega), wrL_len, hq, show (k + 1) * 129 + j - (128 + 1) = k * 129 + j by omega]
    exact flat_at r (fun p hp => hl p (by simp [hp])) k p (by simpa using h) j hj

/-- A pending write lies at its place. -/
theorem own_range {w : World} {base : Nat} {e : TypeId} {v : Value} {l : List (Int × ByteArray)} (ho : w.ownsRow base e 129 v l.length (l.flatMap wrL)) (hl : ∀ p ∈ l, p.2.size = 128) {k : Nat} {p : Int × ByteArray} (hk : l[k]? = some p) :
    ∃ g cap, v = .slice (some ⟨g, 0, none⟩) l.length cap ∧ w.rangeAt g (k * 129) (wrL p) := by
  have hlt : k < l.length := (List.getElem?_eq_some_iff.1 hk).1
  have hc := fun g => ho.cells (g := g)
  rcases ho.2 with ⟨rfl, h0⟩ | ⟨g, cap, cur, rfl, _⟩
  · omega
  · refine ⟨g, cap, rfl, fun j u hu => ?_⟩
    have hj : j < 129 := by
      have := (List.getElem?_eq_some_iff.1 hu).1
      rw [wrL_len, hl p (List.mem_of_getElem? hk)] at this
      exact this
    have := hc g rfl (k * 129 + j) u ((flat_at l hl k p hk j hj).trans hu)
    rw [Addr.add_mid, Nat.zero_add] at this
    exact this

theorem range_data {w : World} {g o : Nat} {p : Int × ByteArray} (h : w.rangeAt g o (wrL p)) : w.rangeAt g (o + 1) (secL p.2) := fun j u hu => by
  have := h (j + 1) u (by simpa [wrL] using hu)
  rw [show o + 1 + j = o + (j + 1) by omega]
  exact this

section
variable {ops : Array Oper} {rest : List Oper} {o : Oper} {a : Act} {w : World} {Q : Exit → Act → World → Prop}
theorem load_sec (hgd : o.guard = none) (x : Operand) (ho : o.op = .load 61 x) (b f : Nat) (hx : a.eval x = .pointer (some ⟨b, f, none⟩)) (y : ByteArray) (hy : y.size = 128) (hr : w.rangeAt b f (secL y))
    (h : wpList Try.prog ops Q rest (a.put o.dst (.agg (secA y))) w) : wpList Try.prog ops Q (o :: rest) a w :=
  wpList_load_mid hgd _ x ho b f hx (secL y) _ hr Try.underlying61 rfl (by rw [secL_len, hy]; exact zero_sec.2) h
theorem load_wr (hgd : o.guard = none) (x : Operand) (ho : o.op = .load 64 x) (b f : Nat) (hx : a.eval x = .pointer (some ⟨b, f, none⟩)) (p : Int × ByteArray) (hy : p.2.size = 128) (hr : w.rangeAt b f (wrL p))
    (h : wpList Try.prog ops Q rest (a.put o.dst (.agg (wrA p))) w) : wpList Try.prog ops Q (o :: rest) a w :=
  wpList_load_mid hgd _ x ho b f hx (wrL p) _ hr Try.underlying64 rfl (by rw [wrL_len, hy]; exact zero_wr.2) h
theorem store_sec (hgd : o.guard = none) (x y : Operand) (ho : o.op = .store 61 x y) (g : Nat) (z : ByteArray) (hx : a.eval x = .pointer (some ⟨g, 0, none⟩)) (hy : a.eval y = .agg (secA z)) (t : TypeId) (old : ByteArray) (hg : Blk w g t (secA old)) (hz : z.size = 128) (hol : old.size = 128)
    (h : wpList Try.prog ops Q rest (a.put o.dst undef) (w.setRow g (secA z))) : wpList Try.prog ops Q (o :: rest) a w :=
  wpList_store_row hgd _ x y ho g (secA z) hx hy t (secA old) hg (by rw [secA_size, hz]; exact zero_sec.2) (by rw [secA_size, secA_size, hz, hol]) (secA_one z) h
theorem store_wr (hgd : o.guard = none) (x y : Operand) (ho : o.op = .store 64 x y) (g : Nat) (p : Int × ByteArray) (hx : a.eval x = .pointer (some ⟨g, 0, none⟩)) (hy : a.eval y = .agg (wrA p)) (t : TypeId) (old : Int × ByteArray) (hg : Blk w g t (wrA old)) (hz : p.2.size = 128) (hol : old.2.size = 128)
    (h : wpList Try.prog ops Q rest (a.put o.dst undef) (w.setRow g (wrA p))) : wpList Try.prog ops Q (o :: rest) a w :=
  wpList_store_row hgd _ x y ho g (wrA p) hx hy t (wrA old) hg (by rw [wrA_size, hz]; exact zero_wr.2) (by rw [wrA_size, wrA_size, hz, hol]) (wrA_one p) h
end

theorem read_no {w : World} {d : Nat} {F : Nat → Prop} {s : St} (D : DiskAt w d F s) (i : Int) (hi : ¬ s.has i) :
    Calls Try.prog 17 #[.pointer (some ⟨d, 0, none⟩), .int .i64 i] w fun e w' => e = .returned (.tuple #[.string ByteArray.empty, .int .i64 1]) ∧ w = w' := by
  go_enter Try.func17, Try.ntmps17
  go_wp2_with fail
  refine (has_no D i hi).mono ?_
  rintro e w' ⟨rfl, rfl⟩
  go_wp2_with fail
  go_ret2
  exact ⟨rfl, rfl⟩

set_option maxHeartbeats 1000000 in
theorem read_yes {w : World} {d : Nat} {F : Nat → Prop} {s : St} (D : DiskAt w d F s) (i : Int) (hi : s.has i) :
    Calls Try.prog 17 #[.pointer (some ⟨d, 0, none⟩), .int .i64 i] w fun e w' => e = .returned (.tuple #[.string (s.cur i), .int .i64 0]) ∧ Below w.heap.size w w' := by
  have hv := zero_sec.1
  obtain ⟨h, l, v, D⟩ := D
  obtain ⟨A, c, rfl⟩ := own_slice D.own
  have c3 := D.c3
  have c4 := D.c4
  have c5 := D.c5
  have hdl := D.blk.lt
  obtain ⟨fh, mh, okh⟩ := D.held
  obtain ⟨fl, ml, okl⟩ := D.last
  have l1 := mh.run_look (P := Try.prog) Try.underlying40 Try.underlying3 (hv w) i false
  rw [okh i] at l1
  have hhs := D.good.held i
  have l2 := (ml.alloc (.cells (secA (s.held i)) 61)).run_look (P := Try.prog) (z := .int .i64 0) Try.underlying41 Try.underlying3 (by kernel_rfl) i true
  have B0 := Blk.new w 61 (secA zeroS)
  have B1 := Blk.new w 61 (secA (s.held i))
  rcases okl i with ⟨e1, e2⟩ | ⟨k, y, e1, e2, e3⟩
  · rw [e1] at l2
    have hc : s.cur i = s.held i := e2 _
    have hcv := conv_sec (w.alloc (.cells (secA (s.held i)) 61)) w.heap.size _ (s.held i) hhs (Blk.new _ _ _)
    have HC := Lib.hid hc
    have L1 := Lib.hid l1
    have L2 := Lib.hid l2
    have DD : DiskAt w d F s := ⟨_, _, _, D⟩
    clear hc l1 l2 e1 e2 okh okl mh ml D
    go_enter Try.func17, Try.ntmps17
    go_wp2_with fail
    refine (has_yes DD i hi).mono ?_
    rintro e w' ⟨rfl, rfl⟩
    go_wp2_with (first
      | (at_lookup; with_reducible refine wpList_look rfl (.tmp 16) (.tmp 17) 40 false rfl h i _ rfl rfl L1.out ?_)
      | (at_lookup; with_reducible refine wpList_look rfl (.tmp 23) (.tmp 24) 41 true rfl l i _ rfl rfl L2.out ?_)
      | (with_reducible refine store_sec rfl (.tmp 6) (.tmp 18) rfl w.heap.size (s.held i) rfl rfl 61 zeroS B0 hhs zeroS_size ?_; rw [World.setRow_alloc_new]))
    go_ret2
    exact ⟨by rw [HC.out]; rfl, (Below.refl _ _).alloc (Nat.le_refl _) _⟩
  · rw [e1] at l2
    have hys : y.size = 128 := (D.good.pend (i, y) (List.mem_of_getElem? e2)).1
    have hc : s.cur i = y := e3 _
    obtain ⟨g, cap, hA, hrg⟩ := own_range D.own (fun p hp => (D.good.pend p hp).1) e2
    have hA' : A = some ⟨g, 0, none⟩ := by injection hA
    subst hA'
    clear hA
    have hkl : k < s.pend.length := (List.getElem?_eq_some_iff.1 e2).1
    have hkz : (0 : Int) ≤ (k : Int) := by omega
    have hkz2 : (k : Int) < (s.pend.length : Int) := by omega
    have hrg2 := World.rangeAt_alloc (range_data hrg) (.cells (secA (s.held i)) 61)
    have hcv := conv_sec (w.alloc (.cells (secA y) 61)) w.heap.size _ y hys (Blk.new _ _ _)
    have HC := Lib.hid hc
    have L1 := Lib.hid l1
    have L2 := Lib.hid l2
    have HRG := Lib.hid hrg2
    have DD : DiskAt w d F s := ⟨_, _, _, D⟩
    clear hc l1 l2 e1 e2 e3 okh okl mh ml D hrg hrg2
    go_enter Try.func17, Try.ntmps17
    go_wp2_with fail
    refine (has_yes DD i hi).mono ?_
    rintro e w' ⟨rfl, rfl⟩
    go_wp2_with (first
      | (at_lookup; with_reducible refine wpList_look rfl (.tmp 16) (.tmp 17) 40 false rfl h i _ rfl rfl L1.out ?_)
      | (at_lookup; with_reducible refine wpList_look rfl (.tmp 23) (.tmp 24) 41 true rfl l i _ rfl rfl L2.out ?_)
      | (with_reducible refine store_sec rfl (.tmp 6) (.tmp 18) rfl w.heap.size (s.held i) rfl rfl 61 zeroS B0 hhs zeroS_size ?_; rw [World.setRow_alloc_new])
      | (with_reducible refine load_sec rfl (.tmp 35) rfl g (k * 129 + 1) rfl y hys HRG.out ?_)
      | (with_reducible refine store_sec rfl (.tmp 6) (.tmp 36) rfl w.heap.size y rfl rfl 61 (s.held i) B1 hys hhs ?_; rw [World.setRow_alloc_new]))
    go_ret2
    exact ⟨by rw [HC.out]; rfl, (Below.refl _ _).alloc (Nat.le_refl _) _⟩

end Go.Proofs.Ytoblkjahohlflaa
