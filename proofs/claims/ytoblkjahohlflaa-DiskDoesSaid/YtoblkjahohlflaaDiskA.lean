/- Contracts of the small calls of package disk (has, usedUp, use, Len, Pending, Limit, forget, New) over a disk that lies in memory. -/
import Derived.Test.YtoblkjahohlflaaDiskS
namespace Go.Proofs.Ytoblkjahohlflaa
open Go.RowKit Go.MapKept Go.Lib
set_option linter.unusedVariables false

section
variable {w : World} {d h l : Nat} {v : Value} {F : Nat → Prop} {s : St}
theorem DiskIn.c0 (D : DiskIn w d h l v F s) : w.cell? ⟨d, 0, none⟩ = some (.bool s.set) := D.blk.cell 0
theorem DiskIn.c1 (D : DiskIn w d h l v F s) : w.cell? ⟨d, 1, none⟩ = some (.int .i64 s.left) := D.blk.cell 1
theorem DiskIn.c2 (D : DiskIn w d h l v F s) : w.cell? ⟨d, 2, none⟩ = some (.int .i64 s.size) := D.blk.cell 2
theorem DiskIn.c3 (D : DiskIn w d h l v F s) : w.cell? ⟨d, 3, none⟩ = some (.map (some h)) := D.blk.cell 3
theorem DiskIn.c4 (D : DiskIn w d h l v F s) : w.cell? ⟨d, 4, none⟩ = some v := D.blk.cell 4
theorem DiskIn.c5 (D : DiskIn w d h l v F s) : w.cell? ⟨d, 5, none⟩ = some (.map (some l)) := D.blk.cell 5
end

theorem has_yes {w : World} {d : Nat} {F : Nat → Prop} {s : St} (D : DiskAt w d F s) (i : Int) (hi : s.has i) :
    Calls Try.prog 30 #[.pointer (some ⟨d, 0, none⟩), .int .i64 i] w fun e w' => e = .returned (.bool true) ∧ w = w' := by
  obtain ⟨h, l, v, D⟩ := D
  obtain ⟨h1, h2⟩ := hi
  have c2 := D.c2
  clear D
  go_enter Try.func30, Try.ntmps30
  go_wp2
  go_ret
  exact ⟨rfl, rfl⟩

theorem has_no {w : World} {d : Nat} {F : Nat → Prop} {s : St} (D : DiskAt w d F s) (i : Int) (hi : ¬ s.has i) :
    Calls Try.prog 30 #[.pointer (some ⟨d, 0, none⟩), .int .i64 i] w fun e w' => e = .returned (.bool false) ∧ w = w' := by
  obtain ⟨h, l, v, D⟩ := D
  unfold St.has at hi
  have c2 := D.c2
  clear D
  by_cases h1 : 0 ≤ i
  · have h2 : decide (i < s.size) = false := by simp; omega
    clear hi
    go_enter Try.func30, Try.ntmps30
    go_wp2
    go_ret
    exact ⟨rfl, rfl⟩
  · have h2 : i < 0 := by omega
    clear hi
    go_enter Try.func30, Try.ntmps30
    go_wp2
    go_ret
    exact ⟨rfl, rfl⟩

theorem usedUp_yes {w : World} {d : Nat} {F : Nat → Prop} {s : St} (D : DiskAt w d F s) (hd : s.dead) :
    Calls Try.prog 31 #[.pointer (some ⟨d, 0, none⟩)] w fun e w' => e = .returned (.bool true) ∧ w = w' := by
  obtain ⟨h, l, v, D⟩ := D
  obtain ⟨h1, h2⟩ := hd
  have c0 := D.c0
  have c1 := D.c1
  rw [h1] at c0
  clear D h1
  go_enter Try.func31, Try.ntmps31
  go_wp2
  go_ret
  exact ⟨rfl, rfl⟩

theorem usedUp_no {w : World} {d : Nat} {F : Nat → Prop} {s : St} (D : DiskAt w d F s) (hd : ¬ s.dead) :
    Calls Try.prog 31 #[.pointer (some ⟨d, 0, none⟩)] w fun e w' => e = .returned (.bool false) ∧ w = w' := by
  obtain ⟨h, l, v, D⟩ := D
  have c0 := D.c0
  have c1 := D.c1
  unfold St.dead at hd
  clear D
  cases hs : s.set
  · rw [hs] at c0
    clear hd hs
    go_enter Try.func31, Try.ntmps31
    go_wp2
    go_ret
    exact ⟨rfl, rfl⟩
  · rw [hs] at c0
    have h2 : 1 ≤ s.left := by
      by_cases e : s.left < 1
      · exact absurd ⟨hs, e⟩ hd
      · omega
    have h3 : decide (s.left < 1) = false := by simp; omega
    clear hd hs h2
    go_enter Try.func31, Try.ntmps31
    go_wp2
    go_ret
    exact ⟨rfl, rfl⟩

theorem len_any {w : World} {d : Nat} {F : Nat → Prop} {s : St} (D : DiskAt w d F s) :
    Calls Try.prog 20 #[.pointer (some ⟨d, 0, none⟩)] w fun e w' => e = .returned (.int .i64 s.size) ∧ w = w' := by
  obtain ⟨h, l, v, D⟩ := D
  have c2 := D.c2
  clear D
  go_enter Try.func20, Try.ntmps20
  go_wp2
  go_ret
  exact ⟨rfl, rfl⟩

theorem own_slice {w : World} {base : Nat} {e : TypeId} {size n : Nat} {v : Value} {xs : List Value} (ho : w.ownsRow base e size v n xs) : ∃ A c, v = .slice A n c := by
  rcases ho.2 with ⟨rfl, rfl⟩ | ⟨g, cap, cur, rfl, _⟩
  · exact ⟨none, 0, rfl⟩
  · exact ⟨_, _, rfl⟩

theorem pending_any {w : World} {d : Nat} {F : Nat → Prop} {s : St} (D : DiskAt w d F s) :
    Calls Try.prog 18 #[.pointer (some ⟨d, 0, none⟩)] w fun e w' => e = .returned (.int .i64 (s.pend.length : Int)) ∧ w = w' := by
  obtain ⟨h, l, v, D⟩ := D
  obtain ⟨A, c, rfl⟩ := own_slice D.own
  have c4 := D.c4
  clear D
  go_enter Try.func18, Try.ntmps18
  go_wp2
  go_ret
  exact ⟨rfl, rfl⟩

theorem DiskIn.turn {w w' : World} {d h l : Nat} {v : Value} {F : Nat → Prop} {s s' : St} (D : DiskIn w d h l v F s) (ho : Only (fun i => i = d) w w')
    (hb : Blk w' d 46 #[.bool s'.set, .int .i64 s'.left, .int .i64 s'.size, .map (some h), v, .map (some l)]) (h1 : s'.held = s.held) (h2 : s'.pend = s.pend) (hg : s'.Good) : DiskIn w' d h l v F s' := by
  have hs : ∀ i, i < w.heap.size → i ≠ d → w'.heap[i]? = w.heap[i]? := fun i hi hne => ho.block i hi hne
  refine ⟨D.fd, D.fh, D.fl, D.fv, D.hl, hb, ?_, ?_, ?_, fun b hb => Nat.lt_of_lt_of_le (D.lt b hb) ho.size, hg⟩
  · obtain ⟨f, m1, m2⟩ := D.held
    exact ⟨f, m1.same (hs h (D.lt h D.fh) D.dh), by rw [h1]; exact m2⟩
  · obtain ⟨f, m1, m2⟩ := D.last
    exact ⟨f, m1.same (hs l (D.lt l D.fl) D.dl), by rw [h2]; exact m2⟩
  · rw [h2]
    exact own_same D.own (fun g hg => hs g (D.lt g (D.fv g hg)) (fun e => D.dv (by rw [hg, e])))

theorem use_any {w : World} {d : Nat} {F : Nat → Prop} {s : St} (D : DiskAt w d F s) (hd : ¬ s.dead) :
    Calls Try.prog 32 #[.pointer (some ⟨d, 0, none⟩)] w fun e w' => e = .returned (.tuple #[]) ∧ DiskAt w' d F s.use ∧ Only F w w' := by
  obtain ⟨h, l, v, D⟩ := D
  have hg := D.good.use hd
  have c0 := D.c0
  have c1 := D.c1
  have f1 := D.blk.frozen 1
  unfold St.dead at hd
  cases hs : s.set
  · rw [hs] at c0
    have e1 : s.use = s := by cases s; simp only at hs; subst hs; rfl
    have H1 := Lib.hid e1
    have HD := Lib.hid (⟨h, l, v, D⟩ : DiskAt w d F s)
    clear hd hs e1 D hg
    go_enter Try.func32, Try.ntmps32
    go_wp2
    go_end0
    exact ⟨rfl, by rw [H1.out]; exact HD.out, Only.refl _ _⟩
  · rw [hs] at c0
    have h2 : 1 ≤ s.left := by
      by_cases e : s.left < 1
      · exact absurd ⟨hs, e⟩ hd
      · omega
    have h3 := D.good.left2
    have b1 := D.blk.set_ 1 (.int .i64 (s.left - 1))
    have e1 : s.use = { s with left := s.left - 1 } := by unfold St.use; rw [hs]; rfl
    have D1 : DiskIn (w.setCell ⟨d, 1, none⟩ (.int .i64 (s.left - 1))) d h l v F s.use := by
      refine D.turn ((Only.refl (fun i => i = d) w).setCell (p := ⟨d, 1, none⟩) (.inl rfl) _) ?_ (by rw [e1]) (by rw [e1]) hg
      rw [e1]
      exact b1
    have HD := Lib.hid (⟨h, l, v, D1⟩ : DiskAt _ d F s.use)
    have fd := D.fd
    clear hd hs e1 D b1 D1 hg
    go_enter Try.func32, Try.ntmps32
    go_wp2
    go_end0
    exact ⟨rfl, HD.out, (Only.refl _ _).setCell (.inl fd) _⟩

theorem limit_any {w : World} {d : Nat} {F : Nat → Prop} {s : St} (D : DiskAt w d F s) (n : Int) (h1 : -9223372036854775808 ≤ n) (h2 : n ≤ 9223372036854775807) :
    Calls Try.prog 19 #[.pointer (some ⟨d, 0, none⟩), .int .i64 n] w fun e w' => e = .returned (.tuple #[]) ∧ DiskAt w' d F (s.limit n) ∧ Only F w w' := by
  obtain ⟨h, l, v, D⟩ := D
  have hg := D.good.limit h1 h2
  have c0 := D.c0
  have c1 := D.c1
  have f0 := D.blk.frozen 0
  have f1 := D.blk.frozen 1
  have b1 := (D.blk.set_ 0 (.bool true)).set_ 1 (.int .i64 n)
  have D1 : DiskIn ((w.setCell ⟨d, 0, none⟩ (.bool true)).setCell ⟨d, 1, none⟩ (.int .i64 n)) d h l v F (s.limit n) :=
    D.turn (((Only.refl (fun i => i = d) w).setCell (p := ⟨d, 0, none⟩) (.inl rfl) _).setCell (p := ⟨d, 1, none⟩) (.inl rfl) _) b1 rfl rfl hg
  have HD := Lib.hid (⟨h, l, v, D1⟩ : DiskAt _ d F (s.limit n))
  have fd := D.fd
  clear D b1 D1 hg
  go_enter Try.func19, Try.ntmps19
  go_wp2
  go_end0
  exact ⟨rfl, HD.out, ((Only.refl _ _).setCell (.inl fd) _).setCell (.inl fd) _⟩

def St.forgot (s : St) : St := { s with pend := [] }
/-- The blocks of a disk behind a call: those of before, and new ones. -/
def Grew (w : World) (F F' : Nat → Prop) : Prop := ∀ b, F' b → F b ∨ w.heap.size ≤ b
theorem Grew.refl (w : World) (F : Nat → Prop) : Grew w F F := fun _ h => .inl h
theorem Grew.trans {w w1 : World} {F G H : Nat → Prop} (h : Grew w F G) (k : Grew w1 G H) (hs : w.heap.size ≤ w1.heap.size) : Grew w F H := fun b hb => by
  rcases k b hb with h1 | h1
  · exact h b h1
  · exact .inr (by omega)

theorem forget_any {w : World} {d : Nat} {F : Nat → Prop} {s : St} (D : DiskAt w d F s) :
    Calls Try.prog 29 #[.pointer (some ⟨d, 0, none⟩)] w fun e w' => e = .returned (.tuple #[]) ∧ (∃ F', DiskAt w' d F' s.forgot ∧ Grew w F F') ∧ Only F w w' := by
  obtain ⟨h, l, v, D⟩ := D
  have c4 := D.c4
  have c5 := D.c5
  have f4 := D.blk.frozen 4
  have f5 := D.blk.frozen 5
  have hmm := @run_makeMap Try.prog
  have hdl := D.blk.lt
  have o3 : Only (fun i => i = d) w (((w.setCell ⟨d, 4, none⟩ (.slice none 0 0)).setCell ⟨d, 5, none⟩ (.map (some w.heap.size))).alloc (.map #[] 0)) :=
    (((Only.refl (fun i => i = d) w).setCell (p := ⟨d, 4, none⟩) (.inl rfl) _).setCell (p := ⟨d, 5, none⟩) (.inl rfl) _).alloc _
  have D1 : DiskIn (((w.setCell ⟨d, 4, none⟩ (.slice none 0 0)).setCell ⟨d, 5, none⟩ (.map (some w.heap.size))).alloc (.map #[] 0)) d h w.heap.size (.slice none 0 0) (fun b => F b ∨ b = w.heap.size) s.forgot := by
    have hsz : ((w.setCell ⟨d, 4, none⟩ (.slice none 0 0)).setCell ⟨d, 5, none⟩ (.map (some w.heap.size))).heap.size = w.heap.size := by simp [World.setCell]
    refine ⟨.inl D.fd, .inl D.fh, .inr rfl, by simp [Value.ownBlock], Nat.ne_of_lt (D.lt h D.fh), ?_, ?_, ?_, World.ownsRow_nil _ _ _ _, ?_, ?_⟩
    · exact ((D.blk.set_ 4 (.slice none 0 0)).set_ 5 (.map (some w.heap.size))).alloc _
    · obtain ⟨f, m1, m2⟩ := D.held
      exact ⟨f, m1.only o3 D.dh, m2⟩
    · refine ⟨_, ?_, LastOK.nil⟩
      have := MapIs.new ((w.setCell ⟨d, 4, none⟩ (.slice none 0 0)).setCell ⟨d, 5, none⟩ (.map (some w.heap.size)))
      rw [hsz] at this
      exact this
    · intro b hb
      have : (((w.setCell ⟨d, 4, none⟩ (.slice none 0 0)).setCell ⟨d, 5, none⟩ (.map (some w.heap.size))).alloc (.map #[] 0)).heap.size = w.heap.size + 1 := by simp [World.setCell]
      rw [this]
      rcases hb with hb | hb
      · have := D.lt b hb; omega
      · omega
    · exact ⟨D.good.size1, D.good.size2, D.good.left1, D.good.left2, D.good.held, by simp [St.forgot]⟩
  have HD := Lib.hid (⟨_, ⟨_, _, _, D1⟩, fun b hb => hb.imp id (fun e => by omega)⟩ : ∃ F', DiskAt _ d F' s.forgot ∧ Grew w F F')
  have HO := Lib.hid (o3.mono (G := F) (fun i e => .inl (by rw [e]; exact D.fd)))
  clear D D1 o3
  go_enter Try.func29, Try.ntmps29
  go_wp2
  go_end0
  exact ⟨rfl, HD.out, HO.out⟩

theorem new_no {w : World} (n : Int) (hn : n < 1 ∨ 4096 < n) :
    Calls Try.prog 4 #[.int .i64 n] w fun e w' => e = .returned (.tuple #[.pointer none, .int .i64 1]) ∧ w = w' := by
  rcases hn with h | h
  · go_enter Try.func4, Try.ntmps4
    go_wp2
    go_ret2
    exact ⟨rfl, rfl⟩
  · have h1 : 1 ≤ n := by omega
    have h2 : decide (n < 1) = false := by simp; omega
    go_enter Try.func4, Try.ntmps4
    go_wp2
    go_ret2
    exact ⟨rfl, rfl⟩

theorem new_yes {w : World} (n : Int) (h1 : 1 ≤ n) (h2 : n ≤ 4096) :
    Calls Try.prog 4 #[.int .i64 n] w fun e w' => ∃ d F, e = .returned (.tuple #[.pointer (some ⟨d, 0, none⟩), .int .i64 0]) ∧ DiskAt w' d F (St.new n) ∧ (∀ b, F b → w.heap.size ≤ b) ∧ Below w.heap.size w w' := by
  have hmm := @run_makeMap Try.prog
  have D1 : DiskIn (((w.alloc (.map #[] 0)).alloc (.map #[] 0)).alloc (.cells #[.bool false, .int .i64 0, .int .i64 n, .map (some w.heap.size), .slice none 0 0, .map (some (w.heap.size + 1))] 46)) (w.heap.size + 1 + 1) w.heap.size (w.heap.size + 1) (.slice none 0 0) (fun b => w.heap.size ≤ b ∧ b < w.heap.size + 1 + 1 + 1) (St.new n) := by
    refine ⟨⟨by omega, by omega⟩, ⟨by omega, by omega⟩, ⟨by omega, by omega⟩, by simp [Value.ownBlock], by omega, ?_, ?_, ?_, World.ownsRow_nil _ _ _ _, ?_, St.Good.new h1 h2⟩
    · have := Blk.new ((w.alloc (.map #[] 0)).alloc (.map #[] 0)) 46 #[.bool false, .int .i64 0, .int .i64 n, .map (some w.heap.size), .slice none 0 0, .map (some (w.heap.size + 1))]
      rw [show ((w.alloc (.map #[] 0)).alloc (.map #[] 0)).heap.size = w.heap.size + 1 + 1 by simp] at this
      exact this
    · exact ⟨_, ((MapIs.new w).alloc _).alloc _, HeldOK.new⟩
    · have := (MapIs.new (w.alloc (.map #[] 0))).alloc (.cells #[.bool false, .int .i64 0, .int .i64 n, .map (some w.heap.size), .slice none 0 0, .map (some (w.heap.size + 1))] 46)
      rw [show (w.alloc (.map #[] 0)).heap.size = w.heap.size + 1 by simp] at this
      exact ⟨_, this, LastOK.nil⟩
    · intro b hb
      simp
      omega
  have HD := Lib.hid (⟨_, _, _, D1⟩ : DiskAt _ _ _ (St.new n))
  clear D1
  have h3 : decide (n < 1) = false := by simp; omega
  have h4 : decide (n > 4096) = false := by simp; omega
  go_enter Try.func4, Try.ntmps4
  go_wp2
  go_ret2
  exact ⟨_, _, rfl, HD.out, fun b hb => hb.1, (((Below.refl _ _).alloc (Nat.le_refl _) _).alloc (by simp) _).alloc (by simp; omega) _⟩

end Go.Proofs.Ytoblkjahohlflaa
