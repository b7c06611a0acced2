/- The document's own disk (lodgerref05): what Write refuses; Read. -/
import Derived.Test.YtoblkjahohlflaaDiskR
namespace Go.Proofs.Ytoblkjahohlflaa
open Go.RowKit Go.MapKept Go.Lib
set_option linter.unusedVariables false

theorem rwrite_arg {w : World} {r : Nat} {F : Nat → Prop} {s : St} (D : RefAt w r F s) (i : Int) (x : ByteArray) (hi : ¬ s.has i) :
    Calls Try.prog 24 #[.pointer (some ⟨r, 0, none⟩), .int .i64 i, .string x] w fun e w' => e = .returned (.int .i64 1) ∧ w = w' := by
  have hg := D.good.size1
  obtain ⟨vL, vW, vT, D⟩ := D
  obtain ⟨aL, cL, rfl⟩ := own_slice D.rowL
  have x0 := D.x0
  clear D
  by_cases h : i < 0
  · have i1 : (decide (i < 0)) = true := by simp [h]
    clear hi
    go_enter Try.func24, Try.ntmps24
    go_wp2
    go_ret
    exact ⟨rfl, rfl⟩
  · have i1 : (decide (i < 0)) = false := by simp; omega
    have i2 : (decide (max s.size 0 ≤ i)) = true := by
      rw [decide_eq_true_iff]
      have : ¬ i < s.size := fun e => hi ⟨by omega, e⟩
      omega
    clear hi
    go_enter Try.func24, Try.ntmps24
    go_wp2
    go_ret
    exact ⟨rfl, rfl⟩

theorem rwrite_form {w : World} {r : Nat} {F : Nat → Prop} {s : St} (D : RefAt w r F s) (i : Int) (x : ByteArray) (hi : s.has i) (hx : x.size ≠ 128) :
    Calls Try.prog 24 #[.pointer (some ⟨r, 0, none⟩), .int .i64 i, .string x] w fun e w' => e = .returned (.int .i64 5) ∧ w = w' := by
  have hb : ((x.size : Int) != 128) = true := by rw [bne_iff_ne]; omega
  obtain ⟨vL, vW, vT, D⟩ := D
  obtain ⟨aL, cL, rfl⟩ := own_slice D.rowL
  have x0 := D.x0
  have i1 : (decide (i < 0)) = false := by have := hi.1; simp; omega
  have i2 : (decide (max s.size 0 ≤ i)) = false := by have := hi.1; have := hi.2; rw [decide_eq_false_iff_not]; omega
  clear D
  go_enter Try.func24, Try.ntmps24
  go_wp2
  go_ret
  exact ⟨rfl, rfl⟩

theorem rwrite_dead {w : World} {r : Nat} {F : Nat → Prop} {s : St} (D : RefAt w r F s) (i : Int) (x : ByteArray) (hi : s.has i) (hx : x.size = 128) (hd : s.dead) :
    Calls Try.prog 24 #[.pointer (some ⟨r, 0, none⟩), .int .i64 i, .string x] w fun e w' => e = .returned (.int .i64 9) ∧ w = w' := by
  have hb : ((x.size : Int) != 128) = false := by rw [hx]; rfl
  have HD := Lib.hid D
  obtain ⟨vL, vW, vT, D⟩ := D
  obtain ⟨aL, cL, rfl⟩ := own_slice D.rowL
  have x0 := D.x0
  have i1 : (decide (i < 0)) = false := by have := hi.1; simp; omega
  have i2 : (decide (max s.size 0 ≤ i)) = false := by have := hi.1; have := hi.2; rw [decide_eq_false_iff_not]; omega
  clear D hx
  go_enter Try.func24, Try.ntmps24
  go_wp2_with fail
  refine (ruse_no HD.out hd).mono ?_
  rintro e w1 ⟨rfl, rfl⟩
  go_wp2
  go_ret
  exact ⟨rfl, rfl⟩

theorem rread_no {w : World} {r : Nat} {F : Nat → Prop} {s : St} (D : RefAt w r F s) (i : Int) (hi : ¬ s.has i) :
    Calls Try.prog 27 #[.pointer (some ⟨r, 0, none⟩), .int .i64 i] w fun e w' => e = .returned (.tuple #[.string ByteArray.empty, .int .i64 1]) ∧ w = w' := by
  have hg := D.good.size1
  obtain ⟨vL, vW, vT, D⟩ := D
  obtain ⟨aL, cL, rfl⟩ := own_slice D.rowL
  have x0 := D.x0
  clear D
  by_cases h : i < 0
  · have i1 : (decide (i < 0)) = true := by simp [h]
    clear hi
    go_enter Try.func27, Try.ntmps27
    go_wp2
    go_ret2
    exact ⟨rfl, rfl⟩
  · have i1 : (decide (i < 0)) = false := by simp; omega
    have i2 : (decide (max s.size 0 ≤ i)) = true := by
      rw [decide_eq_true_iff]
      have : ¬ i < s.size := fun e => hi ⟨by omega, e⟩
      omega
    clear hi
    go_enter Try.func27, Try.ntmps27
    go_wp2
    go_ret2
    exact ⟨rfl, rfl⟩

/-- A cell of a row. -/
theorem own_at {w : World} {v : Value} {base : Nat} {e : TypeId} {n k : Nat} {xs : List Value} {u : Value} (ho : w.ownsRow base e 1 v n xs) (hu : xs[k]? = some u) :
    ∃ g c, v = .slice (some ⟨g, 0, none⟩) n c ∧ w.cell? ⟨g, k, none⟩ = some u ∧ w.frozen? ⟨g, k, none⟩ = false := by
  have hk : k < xs.length := (List.getElem?_eq_some_iff.1 hu).1
  have hn := ho.1
  rcases ho.2 with ⟨rfl, h0⟩ | ⟨g, cap, cur, rfl, _, hh, h1, h2, h3, h4⟩
  · omega
  · refine ⟨g, cap, rfl, ?_, ?_⟩
    · rw [cell_of_row w g k cur e (0, 0) hh]
      rw [← h4, List.getElem?_take] at hu
      split at hu
      · simpa using hu
      · exact absurd hu (by simp)
    · simp [World.frozen?, hh]

theorem rL_at {s : St} {i : Int} (hi : s.has i) : (rL s)[i.toNat]? = some (.string (s.held i)) := by
  have h1 := hi.1
  have h2 := hi.2
  have : ((i.toNat : Nat) : Int) = i := by omega
  simp [rL, List.getElem?_range (show i.toNat < s.size.toNat by omega), this]

set_option maxHeartbeats 1000000 in
theorem rread_yes {w : World} {r : Nat} {F : Nat → Prop} {s : St} (D : RefAt w r F s) (i : Int) (hi : s.has i) (hpl : s.pend.length < 1048576) :
    Calls Try.prog 27 #[.pointer (some ⟨r, 0, none⟩), .int .i64 i] w fun e w' => e = .returned (.tuple #[.string (s.cur i), .int .i64 0]) ∧ w = w' := by
  have hg2 := D.good.size2
  obtain ⟨vL, vW, vT, D⟩ := D
  obtain ⟨gL, cL, rfl, hL, _⟩ := own_at D.rowL (rL_at hi)
  obtain ⟨aW, cW, rfl⟩ := own_slice D.rowW
  obtain ⟨aT, cT, rfl⟩ := own_slice D.rowT
  have x0 := D.x0
  have x1 := D.x1
  have x2 := D.x2
  have RW := Lib.hid D.rowW
  have RT := Lib.hid D.rowT
  have h0 := hi.1
  have hs := hi.2
  have i1 : (decide (i < 0)) = false := by simp; omega
  have i2 : (decide (max s.size 0 ≤ i)) = false := by rw [decide_eq_false_iff_not]; omega
  have hlt2 : i.toNat < s.size.toNat := by omega
  have hii : i < max s.size 0 := by omega
  have hlt : i < (s.size.toNat : Int) := by omega
  clear D
  go_enter Try.func27, Try.ntmps27
  go_wp2_with fail
  go_loopg [6, 7] s.pend.length (fun g z t wx => ∃ k : Nat, k + g = s.pend.length ∧ t = .int .i64 k ∧ z = .string (over (s.pend.take k) i (s.held i)) ∧ w = wx)
  case atStart => exact ⟨0, by omega, rfl, rfl, rfl⟩
  case round =>
    obtain ⟨k, hk, rfl, rfl, rfl⟩ := hrel
    cases gk with
    | zero =>
      obtain rfl : k = s.pend.length := by omega
      have E : over (s.pend.take s.pend.length) i (s.held i) = s.cur i := by rw [List.take_length]; rfl
      go_wp2_with fail
      go_ret2
      exact ⟨by rw [E]; rfl, rfl⟩
    | succ g =>
      have hlt : k < s.pend.length := by omega
      have e2 : s.pend[k]? = some s.pend[k] := List.getElem?_eq_getElem hlt
      have ht : s.pend.take (k + 1) = s.pend.take k ++ [s.pend[k]] := by rw [List.take_succ_eq_append_getElem hlt]
      generalize s.pend[k] = p at e2 ht
      obtain ⟨gW, c', eW, hW, _⟩ := own_at (u := .int .i64 p.1) (k := k) RW.out (by simp [rW, e2])
      obtain ⟨gT, c'', eT, hT, _⟩ := own_at (u := .string p.2) (k := k) RT.out (by simp [rT, e2])
      have eW' : aW = some ⟨gW, 0, none⟩ := by injection eW
      have eT' : aT = some ⟨gT, 0, none⟩ := by injection eT
      subst eW' eT'
      have hst := over_snoc (s.pend.take k) p i (s.held i)
      rw [← ht] at hst
      clear eW eT e2 ht
      have HK := Lib.hid hk
      by_cases e : p.1 = i
      · rw [if_pos e] at hst
        have eb : (p.1 == i) = true := by simp [e]
        clear hk
        go_wp2_with fail
        go_roundg g
        case measure => omega
        case rel => exact ⟨k + 1, by have := HK.out; omega, by go_num, by rw [hst], rfl⟩
      · rw [if_neg e] at hst
        have eb : (p.1 == i) = false := by simp [e]
        clear hk
        go_wp2_with fail
        go_roundg g
        case measure => omega
        case rel => exact ⟨k + 1, by have := HK.out; omega, by go_num, by rw [hst], rfl⟩

end Go.Proofs.Ytoblkjahohlflaa
