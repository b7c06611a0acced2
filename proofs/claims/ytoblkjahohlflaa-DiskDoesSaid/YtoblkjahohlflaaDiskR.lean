/- The document's own disk (lodgerref05) in memory, over the same plain state as the program's: the contracts of use, Limit, Write. -/
import Derived.Test.YtoblkjahohlflaaDiskI
namespace Go.Proofs.Ytoblkjahohlflaa
open Go.RowKit Go.MapKept Go.Lib
set_option linter.unusedVariables false

def leftR (s : St) : Int := if s.set then (if s.left < 1 then 0 else s.left) else -1
def rL (s : St) : List Value := (List.range s.size.toNat).map fun (i : Nat) => Value.string (s.held (i : Int))
def rW (l : List (Int × ByteArray)) : List Value := l.map fun p => Value.int .i64 p.1
def rT (l : List (Int × ByteArray)) : List Value := l.map fun p => Value.string p.2

structure RefIn (w : World) (r : Nat) (vL vW vT : Value) (F : Nat → Prop) (s : St) : Prop where
  fr : F r
  fL : ∀ g, vL.ownBlock = some g → F g
  fW : ∀ g, vW.ownBlock = some g → F g
  fT : ∀ g, vT.ownBlock = some g → F g
  LT : ∀ g, vL.ownBlock = some g → vT.ownBlock ≠ some g
  blk : Blk w r 50 #[vL, vW, vT, .int .i64 (leftR s)]
  rowL : w.ownsRow 0 9 1 vL s.size.toNat (rL s)
  rowW : w.ownsRow 0 3 1 vW s.pend.length (rW s.pend)
  rowT : w.ownsRow 0 9 1 vT s.pend.length (rT s.pend)
  lt : ∀ b, F b → b < w.heap.size
  good : s.Good
/-- The document's disk of state s lies in memory: its struct in block r, all of it in blocks of F. -/
def RefAt (w : World) (r : Nat) (F : Nat → Prop) (s : St) : Prop := ∃ vL vW vT, RefIn w r vL vW vT F s

section
variable {w w' : World} {r : Nat} {vL vW vT : Value} {F : Nat → Prop} {s : St}
theorem RefIn.same (D : RefIn w r vL vW vT F s) (hs : ∀ i, F i → w'.heap[i]? = w.heap[i]?) (hz : w.heap.size ≤ w'.heap.size) : RefIn w' r vL vW vT F s :=
  ⟨D.fr, D.fL, D.fW, D.fT, D.LT, (hs r D.fr).trans D.blk, own_same D.rowL (fun g hg => hs g (D.fL g hg)), own_same D.rowW (fun g hg => hs g (D.fW g hg)), own_same D.rowT (fun g hg => hs g (D.fT g hg)),
    fun b hb => Nat.lt_of_lt_of_le (D.lt b hb) hz, D.good⟩
theorem RefIn.later (D : RefIn w r vL vW vT F s) (hb : Below w.heap.size w w') : RefIn w' r vL vW vT F s := D.same (fun i hi => hb.block i (D.lt i hi)) hb.size
theorem RefAt.later (D : RefAt w r F s) (hb : Below w.heap.size w w') : RefAt w' r F s := let ⟨a, b, c, D⟩ := D; ⟨a, b, c, D.later hb⟩
theorem RefAt.good (D : RefAt w r F s) : s.Good := let ⟨_, _, _, D⟩ := D; D.good
theorem RefAt.lt (D : RefAt w r F s) : ∀ b, F b → b < w.heap.size := let ⟨_, _, _, D⟩ := D; D.lt
theorem RefIn.x0 (D : RefIn w r vL vW vT F s) : w.cell? ⟨r, 0, none⟩ = some vL := D.blk.cell 0
theorem RefIn.x1 (D : RefIn w r vL vW vT F s) : w.cell? ⟨r, 1, none⟩ = some vW := D.blk.cell 1
theorem RefIn.x2 (D : RefIn w r vL vW vT F s) : w.cell? ⟨r, 2, none⟩ = some vT := D.blk.cell 2
theorem RefIn.x3 (D : RefIn w r vL vW vT F s) : w.cell? ⟨r, 3, none⟩ = some (.int .i64 (leftR s)) := D.blk.cell 3
theorem RefIn.rl (D : RefIn w r vL vW vT F s) : vL.ownBlock ≠ some r := own_ne D.rowL D.blk (by decide)
theorem RefIn.rw (D : RefIn w r vL vW vT F s) : vW.ownBlock ≠ some r := own_ne D.rowW D.blk (by decide)
theorem RefIn.rt (D : RefIn w r vL vW vT F s) : vT.ownBlock ≠ some r := own_ne D.rowT D.blk (by decide)
theorem rL_len (s : St) : (rL s).length = s.size.toNat := by simp [rL]

theorem RefIn.turn {s' : St} (D : RefIn w r vL vW vT F s) (ho : Only (fun i => i = r) w w') (hb : Blk w' r 50 #[vL, vW, vT, .int .i64 (leftR s')]) (h1 : s'.held = s.held) (h2 : s'.pend = s.pend) (h3 : s'.size = s.size) (hg : s'.Good) : RefIn w' r vL vW vT F s' := by
  have hs : ∀ i, i < w.heap.size → i ≠ r → w'.heap[i]? = w.heap[i]? := fun i hi hne => ho.block i hi hne
  have eL : rL s' = rL s := by unfold rL; rw [h1, h3]
  refine ⟨D.fr, D.fL, D.fW, D.fT, D.LT, hb, ?_, ?_, ?_, fun b hb => Nat.lt_of_lt_of_le (D.lt b hb) ho.size, hg⟩
  · rw [eL, h3]; exact own_same D.rowL (fun g hg => hs g (D.rowL.lt g hg).2 (fun e => D.rl (by rw [hg, e])))
  · rw [h2]; exact own_same D.rowW (fun g hg => hs g (D.rowW.lt g hg).2 (fun e => D.rw (by rw [hg, e])))
  · rw [h2]; exact own_same D.rowT (fun g hg => hs g (D.rowT.lt g hg).2 (fun e => D.rt (by rw [hg, e])))
end

theorem ruse_no {w : World} {r : Nat} {F : Nat → Prop} {s : St} (D : RefAt w r F s) (hd : s.dead) :
    Calls Try.prog 34 #[.pointer (some ⟨r, 0, none⟩)] w fun e w' => e = .returned (.bool false) ∧ w = w' := by
  obtain ⟨vL, vW, vT, D⟩ := D
  have x3 := D.x3
  have e : leftR s = 0 := by unfold leftR; rw [hd.1, if_pos rfl, if_pos hd.2]
  rw [e] at x3
  clear D e
  go_enter Try.func34, Try.ntmps34
  go_wp2
  go_ret
  exact ⟨rfl, rfl⟩

theorem ruse_yes {w : World} {r : Nat} {F : Nat → Prop} {s : St} (D : RefAt w r F s) (hd : ¬ s.dead) :
    Calls Try.prog 34 #[.pointer (some ⟨r, 0, none⟩)] w fun e w' => e = .returned (.bool true) ∧ RefAt w' r F s.use ∧ Only F w w' := by
  obtain ⟨vL, vW, vT, D⟩ := D
  have x3 := D.x3
  have f3 := D.blk.frozen 3
  have hg := D.good.use hd
  cases hs : s.set
  · have e : leftR s = -1 := by unfold leftR; rw [hs]; rfl
    have e1 : s.use = s := by cases s; simp only at hs; subst hs; rfl
    rw [e] at x3
    have HD := Lib.hid (⟨_, _, _, D⟩ : RefAt w r F s)
    have H1 := Lib.hid e1
    clear D e e1 hs hg
    go_enter Try.func34, Try.ntmps34
    go_wp2
    go_ret
    exact ⟨rfl, by rw [H1.out]; exact HD.out, Only.refl _ _⟩
  · have hl : 1 ≤ s.left := by
      by_cases e : s.left < 1
      · exact absurd ⟨hs, e⟩ hd
      · omega
    have e : leftR s = s.left := by unfold leftR; rw [hs, if_pos rfl, if_neg (by omega)]
    have hm := D.good.left2
    have e1 : leftR s.use = s.left - 1 := by
      unfold leftR St.use
      simp only [hs, if_true]
      split <;> omega
    rw [e] at x3
    have b1 := D.blk.set_ 3 (.int .i64 (s.left - 1))
    have D1 : RefIn (w.setCell ⟨r, 3, none⟩ (.int .i64 (s.left - 1))) r vL vW vT F s.use := by
      refine D.turn ((Only.refl (fun i => i = r) w).setCell (p := ⟨r, 3, none⟩) (.inl rfl) _) ?_ rfl rfl rfl hg
      rw [e1]; exact b1
    have HD := Lib.hid (⟨_, _, _, D1⟩ : RefAt _ r F s.use)
    have fr := D.fr
    have hne : (s.left == 0) = false := by rw [beq_eq_false_iff_ne]; omega
    clear D D1 b1 e e1 hs hg hd
    go_enter Try.func34, Try.ntmps34
    go_wp2
    go_ret
    exact ⟨rfl, HD.out, (Only.refl _ _).setCell (.inl fr) _⟩

theorem rlimit_any {w : World} {r : Nat} {F : Nat → Prop} {s : St} (D : RefAt w r F s) (n : Int) (h1 : -9223372036854775808 ≤ n) (h2 : n ≤ 9223372036854775807) :
    Calls Try.prog 26 #[.pointer (some ⟨r, 0, none⟩), .int .i64 n] w fun e w' => e = .returned (.tuple #[]) ∧ RefAt w' r F (s.limit n) ∧ Only F w w' := by
  obtain ⟨vL, vW, vT, D⟩ := D
  have x3 := D.x3
  have f3 := D.blk.frozen 3
  have hg := D.good.limit h1 h2
  have fr := D.fr
  have key : ∀ q : Int, leftR (s.limit n) = q → RefIn (w.setCell ⟨r, 3, none⟩ (.int .i64 q)) r vL vW vT F (s.limit n) := fun q hq => by
    refine D.turn ((Only.refl (fun i => i = r) w).setCell (p := ⟨r, 3, none⟩) (.inl rfl) _) ?_ rfl rfl rfl hg
    rw [hq]; exact D.blk.set_ 3 (.int .i64 q)
  by_cases hn : 0 < n
  · have HD := Lib.hid (⟨_, _, _, key n (by unfold leftR St.limit; simp only [if_true]; rw [if_neg (by omega)])⟩ : RefAt _ r F (s.limit n))
    clear D key hg
    go_enter Try.func26, Try.ntmps26
    go_wp2
    go_end0
    exact ⟨rfl, HD.out, (Only.refl _ _).setCell (.inl fr) _⟩
  · by_cases hn0 : n = 0
    · subst hn0
      have HD := Lib.hid (⟨_, _, _, key 0 (by unfold leftR St.limit; simp)⟩ : RefAt _ r F (s.limit 0))
      clear D key hg hn
      go_enter Try.func26, Try.ntmps26
      go_wp2
      go_end0
      exact ⟨rfl, HD.out, (Only.refl _ _).setCell (.inl fr) _⟩
    · have HD := Lib.hid (⟨_, _, _, key 0 (by unfold leftR St.limit; simp only [if_true]; rw [if_pos (by omega)])⟩ : RefAt _ r F (s.limit n))
      have hlt : n < 0 := by omega
      clear D key hg hn hn0
      go_enter Try.func26, Try.ntmps26
      go_wp2
      go_end0
      exact ⟨rfl, HD.out, (Only.refl _ _).setCell (.inl fr) _⟩

/-- Two rows of unlike kinds lie in unlike blocks. -/
theorem own_ne2 {w : World} {v u : Value} {e t : TypeId} {b1 b2 s1 s2 n m : Nat} {xs ys : List Value} (ho : w.ownsRow b1 e s1 v n xs) (hu : w.ownsRow b2 t s2 u m ys) (hne : e ≠ t) : ∀ g, v.ownBlock = some g → u.ownBlock ≠ some g := by
  intro g hg
  rcases hu.2 with ⟨rfl, _⟩ | ⟨g', cap, cur, rfl, _, hh, _⟩
  · simp [Value.ownBlock]
  · intro he
    have : g' = g := by simpa [Value.ownBlock] using he
    subst this
    exact own_ne ho (t := t) hh hne hg

/-- One more value in a row that a field of block r holds: the row, the block and what has changed. -/
theorem push_row {w W : World} {r : Nat} {t e : TypeId} {cs : Array Value} {v v' : Value} {n k : Nat} {xs news : List Value} {o : Obj}
    (B : Blk w r t cs) (ho : w.ownsRow 0 e 1 v n xs) (hne : e ≠ t) (g : (w.alloc o).grownBy W v.ownBlock) (ho' : W.ownsRow 0 e 1 v' (n + 1) (xs ++ news))
    (hat : v'.ownBlock = v.ownBlock ∨ v'.ownBlock = some (w.heap.size + 1)) :
    Blk (W.setCell ⟨r, k, none⟩ v') r t (cs.setIfInBounds k v') ∧ (W.setCell ⟨r, k, none⟩ v').ownsRow 0 e 1 v' (n + 1) (xs ++ news)
      ∧ Only (fun i => i = r ∨ v.ownBlock = some i) w (W.setCell ⟨r, k, none⟩ v') ∧ (∀ g, v'.ownBlock = some g → v.ownBlock = some g ∨ w.heap.size ≤ g) := by
  have B' : Blk W r t cs := Blk.grown (B.alloc o) g (fun e => own_ne ho B hne e.symm)
  have hne' := own_ne ho' B' hne
  refine ⟨B'.set_ k v', own_same ho' (fun g hg => Below.heap_setCell _ _ _ _ (fun e => hne' (by rw [hg, e]))), ?_, ?_⟩
  · exact (((Only.refl _ w).alloc o).grown g (fun k hk => .inl (.inr hk))).setCell (p := ⟨r, k, none⟩) (.inl (.inl rfl)) v'
  · intro g hg
    rcases hat with e | e
    · rw [e] at hg; exact .inl hg
    · rw [e] at hg; injection hg with hg; right; rw [← hg]; simp

theorem rW_snoc (l : List (Int × ByteArray)) (i : Int) (x : ByteArray) : rW (l ++ [(i, x)]) = rW l ++ [Value.int .i64 i] := by simp [rW]
theorem rT_snoc (l : List (Int × ByteArray)) (i : Int) (x : ByteArray) : rT (l ++ [(i, x)]) = rT l ++ [Value.string x] := by simp [rT]

set_option maxHeartbeats 1000000 in
theorem rwrite_yes {w : World} {r : Nat} {F : Nat → Prop} {s : St} (D : RefAt w r F s) (i : Int) (x : ByteArray) (hi : s.has i) (hx : x.size = 128) (hd : ¬ s.dead) (hpl : s.pend.length < 1048576) :
    Calls Try.prog 24 #[.pointer (some ⟨r, 0, none⟩), .int .i64 i, .string x] w fun e w' => e = .returned (.int .i64 0) ∧ (∃ F', RefAt w' r F' (s.write i x) ∧ Grew w F F') ∧ Only F w w' := by
  have hb : ((x.size : Int) != 128) = false := by rw [hx]; rfl
  have HX := Lib.hid hx
  have hw := (D.good).write hd hi hx
  have HD := Lib.hid D
  obtain ⟨vL, vW, vT, D⟩ := D
  obtain ⟨aL, cL, rfl⟩ := own_slice D.rowL
  have x0 := D.x0
  have i1 : (decide (i < 0)) = false := by have := hi.1; simp; omega
  have i2 : (decide (max s.size 0 ≤ i)) = false := by have := hi.1; have := hi.2; rw [decide_eq_false_iff_not]; omega
  clear hx D
  go_enter Try.func24, Try.ntmps24
  go_wp2_with fail
  refine (ruse_yes HD.out hd).mono ?_
  rintro e w1 ⟨rfl, D1, O1⟩
  obtain ⟨vL, vW, vT, D1⟩ := D1
  obtain ⟨aW, cW, rfl⟩ := own_slice D1.rowW
  obtain ⟨aT, cT, rfl⟩ := own_slice D1.rowT
  have hpl' : s.use.pend.length < 1048576 := hpl
  have hw1 : (Try.prog.info? 3).map (fun i => (i.zero, i.size, i.bytes)) = some (some (.int .i64 0), 1, 8) := by kernel_rfl
  obtain ⟨i0, hi0, hz0, hz1, hz2⟩ := info_parts hw1
  have hw2 : (Try.prog.info? 9).map (fun i => (i.zero, i.size, i.bytes)) = some (some (.string ByteArray.empty), 1, 16) := by kernel_rfl
  obtain ⟨j0, hj0, hy0, hy1, hy2⟩ := info_parts hw2
  have B1 := D1.blk
  have rL1 := D1.rowL
  have rW1 := D1.rowW
  have rT1 := D1.rowT
  have x1 := D1.x1
  have HD1 := Lib.hid D1
  clear D1
  go_wp2_with (at_builtin; refine wpList_append_own_at _ rfl _ _ _ rfl 0 3 i0 _ 1 8 Try.underlying48 hi0 hz0 hz1 hz2 rfl (by omega) (.slice aW s.use.pend.length cW) s.use.pend.length _ rfl (rW1.alloc _) ⟨w1.heap.size, 0, none⟩ 1 1 [.int .i64 i] rfl rfl (fun j u hu => by
      rw [Addr.add_mid, Nat.zero_add]
      have := (Blk.new w1 3 #[.int .i64 i]).cell j
      exact this.trans (by simpa using hu)) (by simp [Value.oneCell']) (by simp only [maxLen]; omega) (by omega) (Nat.zero_le _) ?_)
  intro v5 W5 own5 g5 _ hat5
  obtain ⟨A5, n5, rfl⟩ := own_slice own5
  obtain ⟨B5, R5, o5, h5⟩ := push_row (k := 1) B1 rW1 (by decide) g5 own5 hat5
  have p5 : Blk W5 r 50 _ := Blk.grown (B1.alloc _) g5 (fun e => own_ne rW1 B1 (by decide) e.symm)
  have D1 := HD1.out
  have L5 : (W5.setCell ⟨r, 1, none⟩ (.slice A5 (s.use.pend.length + 1) n5)).ownsRow 0 9 1 vL s.use.size.toNat (rL s.use) :=
    own_same rL1 (fun g hg => o5.block g (rL1.lt g hg).2 (fun hh => hh.elim (fun e => D1.rl (by rw [hg, e])) (own_ne2 rL1 rW1 (by decide) g hg)))
  have T5 : (W5.setCell ⟨r, 1, none⟩ (.slice A5 (s.use.pend.length + 1) n5)).ownsRow 0 9 1 (.slice aT s.use.pend.length cT) s.use.pend.length (rT s.use.pend) :=
    own_same rT1 (fun g hg => o5.block g (rT1.lt g hg).2 (fun hh => hh.elim (fun e => D1.rt (by rw [hg, e])) (own_ne2 rT1 rW1 (by decide) g hg)))
  have q51 := p5.cell 1
  have q52 := p5.cell 2
  have f51 := p5.frozen 1
  simp only [List.getElem?_toArray, List.getElem?_cons_succ, List.getElem?_cons_zero] at q51 q52
  simp only [List.setIfInBounds_toArray, List.set_cons_succ, List.set_cons_zero] at B5
  have NB0 : Blk ((W5.setCell ⟨r, 1, none⟩ (.slice A5 (s.use.pend.length + 1) n5)).alloc (.cells #[.string x] 9)) W5.heap.size 9 #[.string x] := by
    have := Blk.new (W5.setCell ⟨r, 1, none⟩ (.slice A5 (s.use.pend.length + 1) n5)) 9 #[.string x]
    rwa [show (W5.setCell ⟨r, 1, none⟩ (.slice A5 (s.use.pend.length + 1) n5)).heap.size = W5.heap.size by simp [World.setCell]] at this
  have NB := Lib.hid NB0
  clear NB0
  clear own5 g5 hat5 hw1 hi0 hz0 hz1 hz2 p5 B1 rL1 rW1 rT1 D1
  go_wp2_with (at_builtin; refine wpList_append_own_at _ rfl _ _ _ rfl 0 9 j0 _ 1 16 Try.underlying47 hj0 hy0 hy1 hy2 rfl (by omega) (.slice aT s.use.pend.length cT) s.use.pend.length _ rfl (T5.alloc _) ⟨W5.heap.size, 0, none⟩ 1 1 [.string x] rfl rfl (fun j u hu => by
      rw [Addr.add_mid, Nat.zero_add]
      have := (NB.out).cell j
      exact this.trans (by simpa using hu)) (by simp [Value.oneCell']) (by simp only [maxLen]; omega) (by omega) (Nat.zero_le _) ?_)
  intro v7 W7 own7 g7 _ hat7
  have D1 := HD1.out
  have O5 : Only F w (W5.setCell ⟨r, 1, none⟩ (.slice A5 (s.use.pend.length + 1) n5)) := O1.trans o5 (fun j hj => .inl (hj.elim (fun e => e ▸ D1.fr) (fun e => D1.fW j e)))
  have z1 := O1.size
  have z5 := o5.size
  have TL : ∀ g, vL.ownBlock = some g → g ≠ r ∧ (Value.slice aT s.use.pend.length cT).ownBlock ≠ some g := fun g hg => ⟨fun e => D1.rl (by rw [hg, e]), D1.LT g hg⟩
  have lt5 := R5.lt
  have ltL := D1.rowL.lt
  clear hb i1 i2 x0 hd hi hpl
  have hz6 : (W5.setCell ⟨r, 1, none⟩ (.slice A5 (s.use.pend.length + 1) n5)).heap.size = W5.heap.size := by simp [World.setCell]
  rw [← hz6] at hat7
  generalize hW6 : W5.setCell ⟨r, 1, none⟩ (.slice A5 (s.use.pend.length + 1) n5) = W6 at *
  obtain ⟨B7, R7, o7, h7⟩ := push_row (k := 2) B5 T5 (by decide) g7 own7 hat7
  obtain ⟨A7, n7, rfl⟩ := own_slice own7
  have p7 : Blk W7 r 50 _ := Blk.grown (B5.alloc _) g7 (fun e => own_ne T5 B5 (by decide) e.symm)
  have q72 := p7.cell 2
  have f72 := p7.frozen 2
  simp only [List.getElem?_toArray, List.getElem?_cons_succ, List.getElem?_cons_zero] at q72
  simp only [List.setIfInBounds_toArray, List.set_cons_succ, List.set_cons_zero] at B7
  have FIN : (∃ F', RefAt (W7.setCell ⟨r, 2, none⟩ (.slice A7 (s.use.pend.length + 1) n7)) r F' (s.write i x) ∧ Grew w F F') ∧ Only F w (W7.setCell ⟨r, 2, none⟩ (.slice A7 (s.use.pend.length + 1) n7)) := by
    have O7 : Only F w (W7.setCell ⟨r, 2, none⟩ (.slice A7 (s.use.pend.length + 1) n7)) := O5.trans o7 (fun j hj => .inl (hj.elim (fun e => e ▸ D1.fr) (fun e => D1.fT j e)))
    have z7 := o7.size
    have L7 := own_same (w' := W7.setCell ⟨r, 2, none⟩ (.slice A7 (s.use.pend.length + 1) n7)) L5 (fun g hg => o7.block g (L5.lt g hg).2 (fun hh => hh.elim (TL g hg).1 (TL g hg).2))
    have W7' := own_same (w' := W7.setCell ⟨r, 2, none⟩ (.slice A7 (s.use.pend.length + 1) n7)) R5 (fun g hg => o7.block g (R5.lt g hg).2 (fun hh => hh.elim (fun e => own_ne R5 B5 (by decide) (by rw [hg, e])) (own_ne2 R5 T5 (by decide) g hg)))
    refine ⟨⟨fun b => F b ∨ (w.heap.size ≤ b ∧ b < (W7.setCell ⟨r, 2, none⟩ (.slice A7 (s.use.pend.length + 1) n7)).heap.size), ⟨vL, .slice A5 (s.use.pend.length + 1) n5, .slice A7 (s.use.pend.length + 1) n7, ?_⟩, fun b hb => hb.imp id (fun e => e.1)⟩, O7⟩
    have ew : (s.write i x).pend = s.use.pend ++ [(i, x)] := rfl
    have el : (s.write i x).pend.length = s.use.pend.length + 1 := by rw [ew]; simp
    refine ⟨.inl D1.fr, fun g hg => .inl (D1.fL g hg), fun g hg => ?_, fun g hg => ?_, fun g hg hh => ?_, B7, L7, ?_, ?_, ?_, hw⟩
    · rcases h5 g hg with e | e
      · exact .inl (D1.fW g e)
      · exact .inr ⟨by omega, (W7'.lt g hg).2⟩
    · rcases h7 g hg with e | e
      · exact .inl (D1.fT g e)
      · exact .inr ⟨by omega, (R7.lt g hg).2⟩
    · rcases h7 g hh with e | e
      · exact (TL g hg).2 e
      · have := (ltL g hg).2; omega
    · rw [el, ew, rW_snoc]; exact W7'
    · rw [el, ew, rT_snoc]; exact R7
    · intro b hb
      rcases hb with hb | hb
      · exact Nat.lt_of_lt_of_le (D1.lt b hb) (by omega)
      · exact hb.2
  have HF := Lib.hid FIN
  clear FIN D1 own7 g7 hat7 hw2 hj0 hy0 hy1 hy2 p7 B7 R7 o7 h7 B5 R5 o5 h5 T5 L5 O5 O1 TL lt5 ltL hw
  go_wp2
  go_ret
  exact ⟨rfl, HF.out⟩

end Go.Proofs.Ytoblkjahohlflaa
