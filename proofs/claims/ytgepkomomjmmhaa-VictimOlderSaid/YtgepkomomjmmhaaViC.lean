/- The document's among, Pick and Order. -/
import Derived.Test.YtgepkomomjmmhaaViB
import Derived.Lib.BufferWrite
import Derived.Lib.AppendZeros
namespace Go.Proofs.Ytgepkomomjmmhaa.Vi
open Go.ChangeShapes Go.WideShapes Go.ChangeAt Go.RowKit Go.Lib Go.Joins Go.Deep
open Sp
set_option linter.unusedVariables false
set_option maxRecDepth 100000

section
variable {W w : World} {items : List Sp.Item}
/-- A row of one's own lies in a block. -/
theorem rows_blk (h : Sp.Sep W w items) {k : Nat} {t : TypeId} {sz : Nat} {g : Nat} {p n : Nat} {xs : List Value} (hk : items[k]? = some (rowS t sz (.slice (some ⟨g, 0, none⟩) n p) n xs)) : ∃ cur, Sp.Blk w g t cur := by
  obtain ⟨G, ⟨hrow, _⟩, _⟩ := h.at_ k hk
  rcases hrow.2 with ⟨h1, _⟩ | ⟨g', cap, cur, e, _, hg, _⟩
  · cases h1
  · injection e with e1 e2 e3
    injection e1 with e1
    injection e1 with e1
    subst e1
    exact ⟨cur, hg⟩
theorem rows_put (h : Sp.Sep W w items) {k : Nat} {t : TypeId} {sz : Nat} {g : Nat} {p n : Nat} {xs : List Value} (hk : items[k]? = some (rowS t sz (.slice (some ⟨g, 0, none⟩) n p) n xs)) (i : Nat) (u : Value) :
    Sp.Sep W (w.setCell ⟨g, i, none⟩ u) (items.set k (rowS t sz (.slice (some ⟨g, 0, none⟩) n p) n (xs.set i u))) := by
  obtain ⟨G, ⟨ho, hG⟩, _, _, put⟩ := h.at_ k hk
  exact put _ G _ ⟨(ho.stored i u).1, hG⟩ (Grew.refl _ _) ((Only.refl _ w).setCell (.inl ((hG g).2 rfl)) u)
end
theorem bool_infos : (Try.prog.info? 4).map (fun i => (i.zero, i.size, i.bytes)) = some (some (.bool false), 1, 1) := by kernel_rfl
theorem int_infos : (Try.prog.info? 3).map (fun i => (i.zero, i.size, i.bytes)) = some (some (.int .i64 0), 1, 8) := by kernel_rfl

/-- Which one of those before i is the best one, and the first one. -/
theorem no_top {n : Nat} {c : Nat → Cd} {P : Nat → Bool} (h : ∀ j, j < n → ¬ Top n c P j) : best n c P = -1 := by
  have hb := best_is c P n
  generalize best n c P = b at hb
  cases hb with
  | none k => rfl
  | some j k => exact absurd k (h j k.lt)
set_option maxHeartbeats 4000000 in
theorem among_any (A : Option Addr) (n p : Nat) (L : List Cd) (D : Option Addr) (q : Nat) (B : List Bool) (w : World) (hC : CR w A n L) (hB : VR w D n (bv B)) (hn : n ≤ 1000) (hok : ∀ x ∈ L, COk x) (R : Int) (hR : best n (cdA L) (inB B) = R) :
    Calls Try.prog 25 #[.slice A n p, .slice D n q] w fun e w' => e = .returned (.int .i64 R) ∧ Below w.heap.size w w' := by
  have HR := Lib.hid hR
  have HN := Lib.hid hn
  have HOK := Lib.hid hok
  have HC := Lib.hid hC
  have HB := Lib.hid hB
  clear hR hn hok hC hB
  go_enter Try.func25, Try.ntmps25
  go_upto_region 2 with fail
  go_loopg [5] n (fun gk s5 wr => ∃ k : Nat, k ≤ n ∧ gk = n - k ∧ s5 = .int .i64 (k : Nat) ∧ Hid (Below w.heap.size w wr) ∧ Hid (∀ j, j < k → ¬ Top n (cdA L) (inB B) j))
  case atStart => exact ⟨0, by omega, rfl, rfl, Lib.hid (Below.refl _ _), Lib.hid (fun j hj => by omega)⟩
  case round =>
    obtain ⟨k, hk, hgk, rfl, HW, HF⟩ := hrel
    have HGK := Lib.hid hgk
    clear hgk
    by_cases hkn : k < n
    · have hl : (k : Int) < (n : Int) := by omega
      have wk : IntKind.i64.wrap ((k : Int) + 1) = (k : Int) + 1 := IntWalk.i64_in _ (by have := HN.out; omega)
      by_cases hT : Top n (cdA L) (inB B) k
      · have HC2 := Lib.hid (first_any A n p L D q B k wr (HC.out.later HW.out) (HB.out.later HW.out) HN.out hkn HOK.out true ⟨fun _ => hT, fun _ => rfl⟩)
        have HRK := Lib.hid (HR.out.symm.trans (best_top hT))
        clear hT
        go_wp2_with (go_at_call 31; refine HC2.out.mono ?_; rintro e5 w5 ⟨rfl, hb5⟩; have H5 := Lib.hid (HW.out.trans (hb5.mono HW.out.size)); clear hb5)
        go_ret
        exact ⟨by rw [HRK.out]; rfl, H5.out⟩
      · have HC2 := Lib.hid (first_any A n p L D q B k wr (HC.out.later HW.out) (HB.out.later HW.out) HN.out hkn HOK.out false ⟨fun h => (by cases h), fun h => absurd h hT⟩)
        have HT := Lib.hid hT
        clear hT
        go_wp2_with (go_at_call 31; refine HC2.out.mono ?_; rintro e5 w5 ⟨rfl, hb5⟩; have H5 := Lib.hid (HW.out.trans (hb5.mono HW.out.size)); clear hb5)
        go_roundg (n - (k + 1))
        case measure => have := HGK.out; omega
        case rel => exact ⟨k + 1, by omega, by have := HGK.out; omega, by go_num, H5, Lib.hid (fun j hj => by
          rcases Nat.lt_succ_iff_lt_or_eq.1 hj with h1 | h1
          · exact HF.out j h1
          · subst h1; exact HT.out)⟩
    · obtain rfl : k = n := by omega
      have hl : ¬ (k : Int) < (k : Int) := by omega
      have HRK := Lib.hid (HR.out.symm.trans (no_top HF.out))
      go_wp2_with fail
      go_ret
      exact ⟨by rw [HRK.out]; rfl, HW.out⟩

/-- Which ones are taken, by their Need. -/
def mayL (L : List Cd) (room : Int) : List Bool := L.map fun c => decide (c.n ≤ room)
theorem mayL_len (L : List Cd) (room : Int) : (mayL L room).length = L.length := by unfold mayL; rw [List.length_map]
theorem mayL_in (L : List Cd) (room : Int) : ∀ k, k < L.length → inB (mayL L room) k = may L room k := fun k hk => by
  have h1 : L[k]? = some L[k] := List.getElem?_eq_getElem hk
  have h2 : (mayL L room)[k]? = some (decide (L[k].n ≤ room)) := by unfold mayL; rw [List.getElem?_map, h1]; rfl
  rw [inB_of h2]
  unfold may
  rw [cdA_of h1]
theorem pick_mayL (L : List Cd) (room : Int) : best L.length (cdA L) (inB (mayL L room)) = pick L room := best_same (mayL_in L room) (fun _ _ _ _ => rfl)
theorem mayL_take {L : List Cd} {room : Int} {k : Nat} {x : Cd} (h : L[k]? = some x) : mayL (L.take (k + 1)) room = mayL (L.take k) room ++ [decide (x.n ≤ room)] := by
  unfold mayL
  rw [List.take_add_one, h, List.map_append]
  rfl
theorem bv_snoc (B : List Bool) (b : Bool) : bv (B ++ [b]) = bv B ++ [.bool b] := by unfold bv; rw [List.map_append]; rfl
theorem iv_snoc (B : List Int) (b : Int) : iv (B ++ [b]) = iv B ++ [.int .i64 b] := by unfold iv; rw [List.map_append]; rfl
set_option maxHeartbeats 4000000 in
/-- The document's Pick. -/
theorem rpick_any (A : Option Addr) (n p : Nat) (L : List Cd) (room : Int) (w : World) (hC : CR w A n L) (hn : n ≤ 900) (hok : ∀ x ∈ L, COk x) :
    Calls Try.prog 14 #[.slice A n p, .int .i64 room] w fun e w' => e = .returned (.int .i64 (pick L room)) ∧ Below w.heap.size w w' := by
  have HN := Lib.hid hn
  have HOK := Lib.hid hok
  have HC := Lib.hid hC
  have HL := Lib.hid hC.len
  have h0 : Hid (Sp.Sep w w []) := Lib.hid (Sp.Sep.nil (Below.refl _ _))
  clear hn hok hC
  go_enter Try.func14, Try.ntmps14
  go_upto_region 3 with fail
  have HS := Lib.hid (rows_lit h0.out 4 1)
  generalize w.alloc (.cells #[] 4) = w1 at *
  obtain ⟨g0, hg0⟩ : ∃ g0, w.heap.size = g0 := ⟨_, rfl⟩
  rw [hg0] at HS ⊢
  have H2 : Hid (Sp.Sep w w1 [rowS 4 1 (.slice (some ⟨g0, 0, none⟩) 0 0) 0 (bv (mayL (L.take 0) room))]) := HS
  clear HS h0 hg0
  go_loopg [5, 6] n (fun gk s5 s6 wr => ∃ (k : Nat) (u5 : Value), k ≤ n ∧ gk = n - k ∧ s5 = u5 ∧ s6 = .int .i64 (k : Nat) ∧ Hid (Sp.Sep w wr [rowS 4 1 u5 k (bv (mayL (L.take k) room))]))
  case atStart => exact ⟨0, _, by omega, rfl, rfl, rfl, H2⟩
  case round =>
    obtain ⟨k, u5, hk, hgk, rfl, rfl, HS⟩ := hrel
    have HGK := Lib.hid hgk
    clear hgk H2
    by_cases hkn : k < n
    · have hl : (k : Int) < (n : Int) := by omega
      have wk : IntKind.i64.wrap ((k : Int) + 1) = (k : Int) + 1 := IntWalk.i64_in _ (by have := HN.out; omega)
      obtain ⟨x, hx⟩ : ∃ x, L[k]? = some x := ⟨_, List.getElem?_eq_getElem (by have := HL.out; omega)⟩
      obtain ⟨g, o, rfl, hc⟩ := (HC.out.later HS.out.below).rc (by omega)
      have c3 := (hc k x hx).c3
      obtain ⟨v7, w7, hap, S7⟩ := rows_pushS (k := 0) (cs := [.bool (decide (x.n ≤ room))]) HS.out rfl Try.underlying52 bool_infos rfl (by decide) (by decide) (by have := HN.out; omega) rfl (by intro u hu; simp only [List.mem_singleton] at hu; subst hu; rfl)
      have S8 : Sp.Sep w w7 [rowS 4 1 v7 (k + 1) (bv (mayL (L.take (k + 1)) room))] := by
        rw [mayL_take hx, bv_snoc]
        exact S7
      have H8 := Lib.hid S8
      have HKN := Lib.hid hkn
      clear hc hx S7 S8
      go_wp2_with (with_reducible refine wpList_append_run (wr.alloc (.cells #[.bool (decide (x.n ≤ room))] 4)) rfl (.tmp 14) (.tmp 22) 52 52 rfl u5 (.slice (some ⟨wr.heap.size, 0, none⟩) 1 1) rfl rfl v7 w7 hap ?_)
      go_roundg (n - (k + 1))
      case measure => have := HGK.out; omega
      case rel => exact ⟨k + 1, v7, by omega, by have := HGK.out; omega, rfl, by go_num, H8⟩
    · obtain rfl : k = n := by omega
      have hl : ¬ (k : Int) < (k : Int) := by omega
      obtain ⟨A5, p5, rfl⟩ := rows_slice HS.out (k := 0) rfl
      have HV := Lib.hid (VR.of_row HS.out (k := 0) rfl (by rw [bv_len, mayL_len, List.length_take]; have := HL.out; omega))
      have HT : L.take k = L := List.take_of_length_le (by have := HL.out; omega)
      rw [HT] at HV
      have HAM := Lib.hid (among_any A k p L A5 p5 (mayL L room) wr (HC.out.later HS.out.below) HV.out (by have := HN.out; omega) HOK.out (pick L room) (by rw [HL.out]; exact pick_mayL L room))
      clear HT
      go_wp2_with (go_at_call 25; refine HAM.out.mono ?_; rintro e5 w5 ⟨rfl, hb5⟩; have H5 := Lib.hid (HS.out.below.trans (hb5.mono HS.out.below.size)); clear hb5)
      go_ret
      exact ⟨rfl, H5.out⟩
end Go.Proofs.Ytgepkomomjmmhaa.Vi
