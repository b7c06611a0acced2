/- The document's own disk (lodgerref05): New. -/
import Derived.Test.YtoblkjahohlflaaDiskRC
namespace Go.Proofs.Ytoblkjahohlflaa
open Go.RowKit Go.MapKept Go.Lib
set_option linter.unusedVariables false

theorem rnew_no {w : World} (n : Int) (hn : n < 1 ∨ 4096 < n) :
    Calls Try.prog 5 #[.int .i64 n] w fun e w' => e = .returned (.tuple #[.pointer none, .int .i64 1]) ∧ w = w' := by
  rcases hn with h | h
  · go_enter Try.func5, Try.ntmps5
    go_wp2_with fail
    go_ret2
    exact ⟨rfl, rfl⟩
  · have h1 : ¬ n < 1 := by omega
    go_enter Try.func5, Try.ntmps5
    go_wp2_with fail
    go_ret2
    exact ⟨rfl, rfl⟩

set_option maxHeartbeats 1000000 in
theorem rnew_yes {w : World} (n : Int) (h1 : 1 ≤ n) (h2 : n ≤ 4096) :
    Calls Try.prog 5 #[.int .i64 n] w fun e w' => ∃ r F, e = .returned (.tuple #[.pointer (some ⟨r, 0, none⟩), .int .i64 0]) ∧ RefAt w' r F (St.new n) ∧ (∀ b, F b → w.heap.size ≤ b) ∧ Below w.heap.size w w' := by
  have hn1 : ¬ n < 1 := by omega
  have hn2 : ¬ 4096 < n := by omega
  go_enter Try.func5, Try.ntmps5
  go_wp2_with fail
  refine (zero_any _).mono ?_
  rintro e w' ⟨rfl, rfl⟩
  have B0 := Blk.new w 50 #[.slice none 0 0, .slice none 0 0, .slice none 0 0, .int .i64 (-1)]
  have O0 : Only (fun _ => False) w (w.alloc (.cells #[.slice none 0 0, .slice none 0 0, .slice none 0 0, .int .i64 (-1)] 50)) := (Only.refl _ w).alloc _
  have hw2 : (Try.prog.info? 9).map (fun i => (i.zero, i.size, i.bytes)) = some (some (.string ByteArray.empty), 1, 16) := by kernel_rfl
  obtain ⟨j0, hj0, hy0, hy1, hy2⟩ := info_parts hw2
  have hr0 : w.heap.size ≤ w.heap.size := Nat.le_refl _
  generalize hr : w.heap.size = r at B0
  have HR := Lib.hid hr
  generalize w.alloc (.cells #[.slice none 0 0, .slice none 0 0, .slice none 0 0, .int .i64 (-1)] 50) = w1 at *
  clear hr hw2
  go_wp2_with fail
  go_loopg [6] n.toNat (fun g t wx => ∃ (k : Nat) (A : Option Addr) (c : Nat), k + g = n.toNat ∧ t = .int .i64 k ∧ Blk wx r 50 #[.slice A k c, .slice none 0 0, .slice none 0 0, .int .i64 (-1)]
    ∧ wx.ownsRow 0 9 1 (.slice A k c) k (List.replicate k (.string zeroS)) ∧ (∀ g, (Value.slice A k c).ownBlock = some g → w.heap.size ≤ g) ∧ Only (fun _ => False) w wx)
  case atStart => exact ⟨0, none, 0, by omega, rfl, B0, ⟨rfl, .inl ⟨rfl, rfl⟩⟩, fun g hg => by simp [Value.ownBlock] at hg, O0⟩
  case round =>
    obtain ⟨k, A, c, hkg, rfl, B3, R3, N3, O3⟩ := hrel
    clear B0 O0
    cases gk with
    | zero =>
      obtain rfl : k = n.toNat := by omega
      have hb : decide ((n.toNat : Int) < n) = false := by simp; omega
      have hb2 : ¬ (max n 0 < n) := by omega
      have FIN : RefAt wr r (fun b => w.heap.size ≤ b ∧ b < wr.heap.size) (St.new n) := by
        have nil : ∀ e, wr.ownsRow 0 e 1 (.slice none 0 0) 0 [] := fun e => ⟨rfl, .inl ⟨rfl, rfl⟩⟩
        have eL : rL (St.new n) = List.replicate n.toNat (.string zeroS) := by
          simp only [rL, St.new]
          rw [List.map_const', List.length_range]
        refine ⟨_, _, _, ⟨⟨Nat.le_of_eq HR.out, B3.lt⟩, fun g hg => ⟨N3 g hg, (R3.lt g hg).2⟩, fun g hg => by simp [Value.ownBlock] at hg, fun g hg => by simp [Value.ownBlock] at hg, fun g hg hh => by simp [Value.ownBlock] at hh, B3, ?_, nil _, nil _, fun b hb => hb.2, St.Good.new h1 h2⟩⟩
        rw [eL]; exact R3
      have HF := Lib.hid FIN
      have HO := Lib.hid (O3.below (N := w.heap.size) (Nat.le_refl _) (fun i hi => hi.elim))
      clear FIN B3 R3 N3 O3 hkg
      go_wp2_with fail
      go_ret2
      exact ⟨r, rfl, (fun b => w.heap.size ≤ b ∧ b < wr.heap.size), HF.out, fun b hb => hb.1, HO.out⟩
    | succ g =>
      have hb1 : (k : Int) < n := by omega
      have hk4 : k < 4096 := by omega
      have x0 := B3.cell 0
      simp only [List.getElem?_toArray, List.getElem?_cons_zero] at x0
      have HKG := Lib.hid hkg
      clear hkg
      go_wp2_with (at_builtin; refine wpList_append_own_at _ rfl _ _ _ rfl 0 9 j0 _ 1 16 Try.underlying47 hj0 hy0 hy1 hy2 rfl (by omega) (.slice A k c) k _ rfl (R3.alloc _) ⟨wr.heap.size, 0, none⟩ 1 1 [.string zeroS] rfl rfl (fun j u hu => by
          rw [Addr.add_mid, Nat.zero_add]
          have := (Blk.new wr 9 #[.string zeroS]).cell j
          exact this.trans (by simpa using hu)) (by simp [Value.oneCell']) (by simp only [maxLen]; omega) (by omega) (Nat.zero_le _) ?_)
      intro v5 W5 own5 g5 _ hat5
      obtain ⟨A5, n5, rfl⟩ := own_slice own5
      obtain ⟨B5, R5, o5, h5⟩ := push_row (k := 0) B3 R3 (by decide) g5 own5 hat5
      have p5 : Blk W5 r 50 _ := Blk.grown (B3.alloc _) g5 (fun e => own_ne R3 B3 (by decide) e.symm)
      have q5 := p5.cell 0
      have f5 := p5.frozen 0
      simp only [List.getElem?_toArray, List.getElem?_cons_zero] at q5
      simp only [List.setIfInBounds_toArray, List.set_cons_zero] at B5
      have eR : List.replicate k (Value.string zeroS) ++ [.string zeroS] = List.replicate (k + 1) (.string zeroS) := by rw [List.replicate_succ']
      rw [eR] at R5
      have N5 : ∀ g, (Value.slice A5 (k + 1) n5).ownBlock = some g → w.heap.size ≤ g := fun g hg => (h5 g hg).elim (N3 g) (fun e => Nat.le_trans O3.size e)
      have O5 := O3.trans o5 (fun i hi => .inr (hi.elim (fun e => by rw [e]; exact Nat.le_of_eq HR.out) (fun e => N3 i e)))
      have H := Lib.hid (And.intro B5 (And.intro R5 (And.intro N5 O5)))
      clear B5 R5 N5 O5 B3 R3 N3 O3 own5 g5 hat5 o5 h5 p5 eR
      go_wp2_with fail
      go_roundg g
      case measure => omega
      case rel => exact ⟨k + 1, A5, n5, by have := HKG.out; omega, by go_num, H.out.1, H.out.2.1, H.out.2.2.1, H.out.2.2.2⟩

end Go.Proofs.Ytoblkjahohlflaa
