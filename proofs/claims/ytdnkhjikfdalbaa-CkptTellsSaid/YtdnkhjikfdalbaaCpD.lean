/- Contract of ckpt's segments, for every bytes and every count: the lists, or the panic; no memory that was there is changed. -/
import Derived.Test.YtdnkhjikfdalbaaCpC
import Derived.IntWalk
import Derived.Deep.DeepCutAuto
import Derived.Deep.OwnRows
import Derived.Laws.OwnMore
namespace Go.Proofs.Ytdnkhjikfdalbaa
open Go.RowKit Go.Lib Wd Cr
set_option linter.unusedVariables false

/-- Bytes as an array's cells. -/
def rowV (b : List UInt8) : Array Value := (byteCells b).toArray
theorem rowV_size (b : List UInt8) : (rowV b).size = b.length := by simp [rowV, byteCells_length]
theorem rowV_at (b : List UInt8) (i : Nat) (h : i < b.length) : (rowV b)[i]? = some (.int .u8 (byteAt b i : Nat)) := by
  simp [rowV, byteCells, byteAt, List.getElem?_eq_getElem h]
/-- All zero from the count's pairs on. -/
def Zeros (b : List UInt8) (n : Nat) : Prop := ∀ i, 2 * n ≤ i → i < 87 → byteAt b i = 0
def evens (b : List UInt8) (n : Nat) : List Int := (List.range n).map fun i => ((byteAt b (2 * i) : Nat) : Int)
def odds (b : List UInt8) (n : Nat) : List Int := (List.range n).map fun i => ((byteAt b (2 * i + 1) : Nat) : Int)

/-- What segments tells. -/
def SegP (b : List UInt8) (n : Nat) (w : World) (e : Ending) (w' : World) : Prop :=
  Below w.heap.size w w' ∧ ((Zeros b n ∧ ∃ bo bl : Nat, e = .returned (.tuple #[.slice (some ⟨bo, 0, none⟩) n n, .slice (some ⟨bl, 0, none⟩) n n]) ∧ (w.heap.size < bo ∧ bo < w'.heap.size ∧ w.heap.size < bl ∧ bl < w'.heap.size) ∧ Sl w' (some ⟨bo, 0, none⟩) n (evens b n) ∧ Sl w' (some ⟨bl, 0, none⟩) n (odds b n)) ∨ (¬ Zeros b n ∧ e = .panicked bad))

theorem segs_many (b : List UInt8) (n : Nat) (w : World) (hn : n < 256) (h : 16 < n) :
    Calls Try.prog 40 #[.agg (rowV b), .int .i64 n] w fun e w' => e = .panicked bad ∧ Below w.heap.size w w' := by
  have h1 : ¬ (n : Int) ≤ 16 := by omega
  go_enter Try.func40, Try.ntmps40
  go_wp2_with fail
  refine (need_no _).mono ?_
  rintro e w' ⟨rfl, rfl⟩
  go_wp2_with fail
  exact ⟨rfl, rfl, below1 _ _⟩

/-- The two lists as they are filled: the first io, il numbers. -/
structure Two (w W : World) (bo bl : Nat) (b : List UInt8) (n io il : Nat) : Prop where
  below : Below w.heap.size w W
  box : Blk W w.heap.size 67 (rowV b)
  lo : w.heap.size < bo
  ll : w.heap.size < bl
  ho : bo < W.heap.size
  hl : bl < W.heap.size
  ne : bo ≠ bl
  co : ∀ j, j < n → W.cell? ⟨bo, j, none⟩ = some (.int .i64 (if j < io then ((byteAt b (2 * j) : Nat) : Int) else 0))
  cl : ∀ j, j < n → W.cell? ⟨bl, j, none⟩ = some (.int .i64 (if j < il then ((byteAt b (2 * j + 1) : Nat) : Int) else 0))
  fo : ∀ j, j < n → W.frozen? ⟨bo, j, none⟩ = false
  fl : ∀ j, j < n → W.frozen? ⟨bl, j, none⟩ = false
section
variable {w W : World} {bo bl : Nat} {b : List UInt8} {n io il : Nat}
theorem Two.drew (h : Two w W bo bl b n io il) : Two w W.drew bo bl b n io il :=
  have e := bcell (below_drawn W)
  ⟨Wd.Ge.trans h.below (below_drawn W), h.box.later (below_drawn W), h.lo, h.ll, h.ho, h.hl, h.ne, fun j hj => (e.1 _ _ h.ho).trans (h.co j hj), fun j hj => (e.1 _ _ h.hl).trans (h.cl j hj), fun j hj => (e.2 _ _ h.ho).trans (h.fo j hj), fun j hj => (e.2 _ _ h.hl).trans (h.fl j hj)⟩
theorem far_set {g g' : Nat} {t : TypeId} {cs : Array Value} (h : Blk W g t cs) (hg : g' ≠ g) (j : Nat) (v : Value) : Blk (W.setCell ⟨g', j, none⟩ v) g t cs :=
  (Below.heap_setCell W ⟨g', j, none⟩ v g (Ne.symm hg)).trans h
theorem Two.setO (h : Two w W bo bl b n io il) (hi : io < n) (x : Int) (hx : x = ((byteAt b (2 * io) : Nat) : Int)) : Two w (W.setCell ⟨bo, io, none⟩ (.int .i64 x)) bo bl b n (io + 1) il := by
  refine ⟨h.below.setCell (Nat.le_of_lt h.lo) _, far_set h.box (by have := h.lo; omega) _ _, h.lo, h.ll, by simpa using h.ho, by simpa using h.hl, h.ne, fun j hj => ?_, fun j hj => ?_, fun j hj => by rw [World.frozen?_setCell]; exact h.fo j hj, fun j hj => by rw [World.frozen?_setCell]; exact h.fl j hj⟩
  · by_cases e : io = j
    · subst e
      rw [World.cell?_setCell_same _ _ _ (h.co _ hj), if_pos (by omega), hx]
    · rw [World.cell?_setCell_other _ _ _ _ (by intro hh; injection hh with _ hh; omega), h.co j hj]
      by_cases e2 : j < io
      · rw [if_pos e2, if_pos (by omega)]
      · rw [if_neg e2, if_neg (by omega)]
  · rw [World.cell?_setCell_other _ _ _ _ (by intro hh; injection hh with hh _; exact h.ne hh)]
    exact h.cl j hj
theorem Two.setL (h : Two w W bo bl b n io il) (hi : il < n) (x : Int) (hx : x = ((byteAt b (2 * il + 1) : Nat) : Int)) : Two w (W.setCell ⟨bl, il, none⟩ (.int .i64 x)) bo bl b n io (il + 1) := by
  refine ⟨h.below.setCell (Nat.le_of_lt h.ll) _, far_set h.box (by have := h.ll; omega) _ _, h.lo, h.ll, by simpa using h.ho, by simpa using h.hl, h.ne, fun j hj => ?_, fun j hj => ?_, fun j hj => by rw [World.frozen?_setCell]; exact h.fo j hj, fun j hj => by rw [World.frozen?_setCell]; exact h.fl j hj⟩
  · rw [World.cell?_setCell_other _ _ _ _ (by intro hh; injection hh with hh _; exact h.ne hh.symm)]
    exact h.co j hj
  · by_cases e : il = j
    · subst e
      rw [World.cell?_setCell_same _ _ _ (h.cl _ hj), if_pos (by omega), hx]
    · rw [World.cell?_setCell_other _ _ _ _ (by intro hh; injection hh with _ hh; omega), h.cl j hj]
      by_cases e2 : j < il
      · rw [if_pos e2, if_pos (by omega)]
      · rw [if_neg e2, if_neg (by omega)]
end
theorem Two.sls {w W : World} {bo bl : Nat} {b : List UInt8} {n : Nat} (h : Two w W bo bl b n n n) : Sl W (some ⟨bo, 0, none⟩) n (evens b n) ∧ Sl W (some ⟨bl, 0, none⟩) n (odds b n) := by
  refine ⟨⟨by simp [evens], fun _ => ⟨bo, 0, rfl, h.ho, fun j hj => ?_⟩⟩, ⟨by simp [odds], fun _ => ⟨bl, 0, rfl, h.hl, fun j hj => ?_⟩⟩⟩
  · rw [Nat.zero_add, h.co j hj, if_pos hj]
    simp only [evens, nth_map hj]
  · rw [Nat.zero_add, h.cl j hj, if_pos hj]
    simp only [odds, nth_map hj]
/-- A new row of n zeros. -/
def zI (n : Nat) : Array Value := madeCells #[.int .i64 0] n
theorem zI_at (n j : Nat) (h : j < n) : (zI n)[j]? = some (.int .i64 0) := by
  unfold zI
  have := toList_madeCells_one (.int .i64 0) n
  rw [← Array.getElem?_toList, this, List.getElem?_replicate, if_pos h]
theorem make_run (n : Nat) (hn : n ≤ 16) (w : World) : (Instr.makeSlice 24 (.int .i64 (n : Int)) (.int .i64 (n : Int))).run Try.prog w = .ok (.slice (some ⟨w.heap.size, 0, none⟩) n n) (w.alloc (.cells (zI n) 3)) :=
  run_make_row' 24 3 (.int .i64 0) 8 Try.underlying24 (by kernel_rfl) rfl .i64 .i64 n (by omega) (by omega) w
theorem blk_frozen {w : World} {g : Nat} {t : TypeId} {cs : Array Value} (h : Blk w g t cs) (i : Nat) : w.frozen? ⟨g, i, none⟩ = false := by
  unfold Blk at h
  simp [World.frozen?, h]
theorem two_of {w W : World} {bo bl : Nat} {b : List UInt8} {n : Nat} (hb : Below w.heap.size w W) (h0 : Blk W w.heap.size 67 (rowV b)) (h1 : Blk W bo 3 (zI n)) (h2 : Blk W bl 3 (zI n)) (l1 : w.heap.size < bo) (l2 : w.heap.size < bl) (hne : bo ≠ bl) : Two w W bo bl b n 0 0 :=
  ⟨hb, h0, l1, l2, h1.lt, h2.lt, hne, fun j hj => by rw [h1.cell, zI_at n j hj, if_neg (by omega)], fun j hj => by rw [h2.cell, zI_at n j hj, if_neg (by omega)], fun j _ => blk_frozen h1 j, fun j _ => blk_frozen h2 j⟩
theorem blk_drew {w : World} {g : Nat} {t : TypeId} {cs : Array Value} (h : Blk w g t cs) : Blk w.drew g t cs := h
theorem blk_new (w : World) (t : TypeId) (cs : Array Value) (n : Nat) (h : w.heap.size = n) : Blk (w.alloc (.cells cs t)) n t cs := by subst h; exact Blk.new w t cs

set_option maxHeartbeats 4000000 in
set_option maxRecDepth 100000 in
theorem segs_any (b : List UInt8) (n : Nat) (w : World) (hb : b.length = 87) (hn : n ≤ 16) :
    Calls Try.prog 40 #[.agg (rowV b), .int .i64 n] w (SegP b n w) := by
  have h1 : (n : Int) ≤ 16 := by omega
  have hmk := make_run n hn
  have h0 : (0 : Int) ≤ (n : Int) := by omega
  go_enter Try.func40, Try.ntmps40
  go_wp2_with fail
  refine (need_yes _).mono ?_
  rintro e w' ⟨rfl, rfl⟩
  go_upto_region 2 with fail
  go_cut [4, 5] (fun s4 s5 wx => ∃ bo bl : Nat, s4 = .slice (some ⟨bo, 0, none⟩) n n ∧ s5 = .slice (some ⟨bl, 0, none⟩) n n ∧ Hid (Two w wx bo bl b n 0 0))
  case first =>
    go_region
    all_goals
      go_wp2_with fail
      go_meet
    all_goals
      have z1 : (w.alloc (.cells (rowV b) 67)).heap.size = w.heap.size + 1 := by simp
      have z2 : ((w.alloc (.cells (rowV b) 67)).alloc (.cells (zI n) 3)).heap.size = w.heap.size + 1 + 1 := by simp
      have k0 := ((Blk.new w 67 (rowV b)).later (below1 _ (.cells (zI n) 3))).later (below1 _ (.cells (zI n) 3))
      have k1 := (blk_new (w.alloc (.cells (rowV b) 67)) 3 (zI n) _ z1).later (below1 _ (.cells (zI n) 3))
      have k2 := blk_new ((w.alloc (.cells (rowV b) 67)).alloc (.cells (zI n) 3)) 3 (zI n) _ z2
      have kb : Below w.heap.size w (((w.alloc (.cells (rowV b) 67)).alloc (.cells (zI n) 3)).alloc (.cells (zI n) 3)).drew := Wd.Ge.trans (Wd.Ge.trans (Wd.Ge.trans (below1 _ _) (below1 _ _)) (below1 _ _)) (below_drawn _)
      first
        | exact ⟨w.heap.size + 1, w.heap.size + 1 + 1, rfl, rfl, Lib.hid (two_of kb (blk_drew k0) (blk_drew k1) (blk_drew k2) (by omega) (by omega) (by omega))⟩
        | exact ⟨w.heap.size + 1 + 1, w.heap.size + 1, rfl, rfl, Lib.hid (two_of kb (blk_drew k0) (blk_drew k2) (blk_drew k1) (by omega) (by omega) (by omega))⟩
  case rest =>
    obtain ⟨bo, bl, rfl, rfl, T⟩ := hcut
    clear hmk
    go_wp2_with fail
    go_loopg [17] 16 (fun gk s17 wr => ∃ i : Nat, i ≤ n ∧ gk = 16 - i ∧ s17 = .int .i64 i ∧ Hid (Two w wr bo bl b n i i))
    case atStart => exact ⟨0, by omega, rfl, rfl, T⟩
    case round =>
      obtain ⟨i, hi, hgk, rfl, T⟩ := hrel
      have HG := Lib.hid hgk
      clear hgk
      by_cases hlt : i < n
      · have hlti : (i : Int) < (n : Int) := by omega
        have T2 := T
        have hne1 : ¬ bo = bl := T.out.ne
        have hne2 : ¬ bl = bo := fun h => hne1 h.symm
        obtain ⟨x, hx⟩ : ∃ x : Nat, Hid (byteAt b (2 * i) = x) := ⟨_, rfl⟩
        obtain ⟨y, hy⟩ : ∃ y : Nat, Hid (byteAt b (2 * i + 1) = y) := ⟨_, rfl⟩
        have hx1 : x < 256 := by rw [← hx.out]; exact byteAt_lt _ _
        have hy1 : y < 256 := by rw [← hy.out]; exact byteAt_lt _ _
        have bx := T2.out.box.cell (2 * i)
        rw [rowV_at b _ (by omega), hx.out] at bx
        have by_ := T2.out.box.cell (2 * i + 1)
        rw [rowV_at b _ (by omega), hy.out] at by_
        have c1 := T2.out.co i hlt
        have c2 := T2.out.cl i hlt
        have f1 := T2.out.fo i hlt
        have f2 := T2.out.fl i hlt
        have w1 : IntKind.i64.wrap (2 * (i : Int)) = 2 * (i : Int) := IntWalk.i64_in _ (by omega)
        have w2 : IntKind.i64.wrap (2 * (i : Int) + 1) = 2 * (i : Int) + 1 := IntWalk.i64_in _ (by omega)
        have t1 : (2 * (i : Int)).toNat = 2 * i := by omega
        have t2 : (2 * (i : Int) + 1).toNat = 2 * i + 1 := by omega
        have p1 : 0 ≤ 2 * (i : Int) := by omega
        have p2 : 0 ≤ 2 * (i : Int) + 1 := by omega
        have p3 : 2 * (i : Int) < 87 := by omega
        have p4 : 2 * (i : Int) + 1 < 87 := by omega
        go_wp2_with fail
        go_region
        all_goals
          clear bx by_ c1 c2 f1 f2 w1 w2 t1 t2 p1 p2 p3 p4
          go_wp2_with fail
          go_roundg (16 - (i + 1))
          case measure => have := HG.out; omega
          case rel =>
            refine ⟨i + 1, by omega, rfl, by go_num, Lib.hid ?_⟩
            first
              | exact ((T.out.setO hlt _ (by rw [hx.out])).setL hlt _ (by rw [hy.out])).drew
              | exact ((T.out.setL hlt _ (by rw [hy.out])).setO hlt _ (by rw [hx.out])).drew
      · obtain rfl : i = n := by omega
        have hlti : ¬ (i : Int) < (i : Int) := by omega
        have w1 : IntKind.i64.wrap (2 * (i : Int)) = 2 * (i : Int) := IntWalk.i64_in _ (by omega)
        have t1 : (2 * (i : Int)).toNat = 2 * i := by omega
        have p1 : 0 ≤ 2 * (i : Int) := by omega
        have p3 : 2 * (i : Int) ≤ 87 := by omega
        go_wp2_with fail
        obtain ⟨r, HR⟩ : ∃ r, Hid (87 - 2 * i = r) := ⟨_, rfl⟩
        obtain ⟨d, HD⟩ : ∃ d, Hid (2 * i = d) := ⟨_, rfl⟩
        have hr87 : r ≤ 87 := by rw [← HR.out]; omega
        rw [HR.out, HD.out]
        clear w1 t1 p1 p3 hlti hlt
        go_loopg [42] 87 (fun gk s42 wx => ∃ j : Nat, j ≤ r ∧ gk = 87 - j ∧ s42 = .int .i64 j ∧ wr = wx ∧ Hid (∀ t, t < j → byteAt b (d + t) = 0))
        case atStart => exact ⟨0, by omega, rfl, rfl, rfl, Lib.hid (fun t ht => by omega)⟩
        case round =>
          obtain ⟨j, hj, hgk, rfl, rfl, Z⟩ := hrel
          have HG2 := Lib.hid hgk
          clear hgk
          by_cases hjr : j < r
          · have hjri : (j : Int) < (r : Int) := by omega
            have c := T.out.box.cell (d + j)
            rw [rowV_at b _ (by rw [hb]; have := HR.out; have := HD.out; omega)] at c
            cases hz : byteAt b (d + j) with
            | zero =>
              rw [hz] at c
              have q : (((0 : Nat) : Int) == 0) = true := rfl
              go_wp2_with fail
              refine (need_yes _).mono ?_
              rintro e w' ⟨rfl, rfl⟩
              go_wp2_with fail
              go_roundg (87 - (j + 1))
              case measure => have := HG2.out; omega
              case rel => exact ⟨j + 1, by omega, rfl, by go_num, rfl, Lib.hid (fun t ht => by
                by_cases e : t = j
                · subst e; exact hz
                · exact Z.out t (by omega))⟩
            | succ z =>
              have ZN : Hid (¬ Zeros b i) := Lib.hid (fun h => by
                have := h (d + j) (by have := HD.out; omega) (by have := HR.out; have := HD.out; omega)
                omega)
              obtain ⟨y, hy⟩ : ∃ y : Nat, z + 1 = y := ⟨_, rfl⟩
              rw [hz, hy] at c
              have q : ((y : Int) == 0) = false := by simp; omega
              clear hz hy
              go_wp2_with fail
              refine (need_no _).mono ?_
              rintro e w' ⟨rfl, rfl⟩
              go_wp2_with fail
              exact ⟨rfl, T.out.below, .inr ⟨ZN.out, rfl⟩⟩
          · obtain rfl : j = r := by omega
            have hjri : ¬ (j : Int) < (j : Int) := by omega
            have ZY : Hid (Zeros b i) := Lib.hid (fun t h1 h2 => by
              have := Z.out (t - d) (by have := HR.out; have := HD.out; omega)
              rw [show d + (t - d) = t by have := HD.out; omega] at this
              exact this)
            clear hjr
            go_wp2_with fail
            go_ret2
            exact ⟨T.out.below, .inl ⟨ZY.out, bo, bl, rfl, ⟨T.out.lo, T.out.ho, T.out.ll, T.out.hl⟩, T.out.sls⟩⟩
end Go.Proofs.Ytdnkhjikfdalbaa
