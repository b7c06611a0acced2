/- The statements' own Ref and Refs. -/
import Derived.Test.YtgepkomomjmmhaaViD
namespace Go.Proofs.Ytgepkomomjmmhaa.Vi
open Go.ChangeShapes Go.WideShapes Go.ChangeAt Go.RowKit Go.Lib Go.Joins Go.Deep
open Sp
set_option linter.unusedVariables false
set_option maxRecDepth 100000

theorem info_p5 : (Try.prog.info? 28).map (·.size) = some 5 := by kernel_rfl
theorem res_p5 {fn : Func} {p' : Tmp} (h : fn.results = #[.cell p' 28]) (tmps : Array Value) (W : World) (b : Nat) {cs : Array Value} {t : TypeId} (hp : tmps.getD p' undef = .pointer (some ⟨b, 0, none⟩)) (L : Sp.Blk W b t cs) (hs : cs.size = 5) : (results fn tmps).run Try.prog W = .ok (.agg cs) W := by
  have hp' : tmps[p']?.getD undef = .pointer (some ⟨b, 0, none⟩) := by simpa using hp
  have h1 : (loadVar 28 ⟨b, 0, none⟩).run Try.prog W = .ok (.agg cs) W := run_loadVar_row W b t 28 cs (0, 0) _ L Try.underlying28 rfl (by rw [hs]; exact info_p5)
  simp [results, h, hp', asAddr, h1]
set_option maxHeartbeats 2000000 in
theorem ref_any (c : Cd) (w : World) : Calls Try.prog 12 #[.agg (cdA5 c)] w fun e w' => e = .returned (.agg (cdA5 c)) ∧ Below w.heap.size w w' := by
  go_enter Try.func12, Try.ntmps12
  go_wp2_with fail
  exact bodyPost_ret (res_p5 rfl _ _ (w.heap.size + 1) rfl (Sp.Blk.at_ _ _ _ (by simp)) rfl) rfl ⟨rfl, ((Below.refl _ _).alloc (Nat.le_refl _) _).alloc (by simp) _⟩
theorem take_one {α : Type} {L : List α} {i : Nat} {r : α} (h : L[i]? = some r) : L.take (i + 1) = L.take i ++ [r] := by rw [List.take_add_one, h]; rfl
theorem cut_flat {L : List Cd} {k : Nat} {x : Cd} (h : L[k]? = some x) : (L.take (k + 1)).flatMap cdC = (L.take k).flatMap cdC ++ cdC x := by rw [take_one h, List.flatMap_append]; simp
/-- A slice's room. -/
theorem rows_room {W w : World} {items : List Sp.Item} (h : Sp.Sep W w items) {k : Nat} {t : TypeId} {sz : Nat} {A : Option Addr} {p n m : Nat} {xs : List Value} (hk : items[k]? = some (rowS t sz (.slice A n p) m xs)) : n ≤ p := by
  obtain ⟨G, ⟨hrow, _⟩, _⟩ := h.at_ k hk
  rcases hrow.2 with ⟨e, _⟩ | ⟨g', cap, cur, e, _, _, h1, _⟩
  · injection e with e1 e2 e3; omega
  · injection e with e1 e2 e3; omega
set_option maxHeartbeats 4000000 in
theorem refs_any (A : Option Addr) (n p : Nat) (L : List Cd) (w : World) (hC : CR w A n L) (hn : n ≤ 900) :
    Calls Try.prog 15 #[.slice A n p] w fun e w' => ∃ A' p', e = .returned (.slice A' n p') ∧ CR w' A' n L ∧ Below w.heap.size w w' := by
  have HN := Lib.hid hn
  have HC := Lib.hid hC
  have HL := Lib.hid hC.len
  have h0 : Hid (Sp.Sep w w []) := Lib.hid (Sp.Sep.nil (Below.refl _ _))
  clear hn hC
  go_enter Try.func15, Try.ntmps15
  go_upto_region 3 with fail
  have HS := rows_lit h0.out 28 5
  generalize w.alloc (.cells #[] 28) = w1 at *
  obtain ⟨g0, hg0⟩ : ∃ g0, w.heap.size = g0 := ⟨_, rfl⟩
  rw [hg0] at HS ⊢
  have H2 : Hid (Sp.Sep w w1 [rowS 28 5 (.slice (some ⟨g0, 0, none⟩) 0 0) 0 ((L.take 0).flatMap cdC)]) := Lib.hid HS
  clear HS h0
  go_loopg [3, 4] n (fun gk s3 s4 wr => ∃ (k : Nat) (u3 : Value), k ≤ n ∧ gk = n - k ∧ s3 = u3 ∧ s4 = .int .i64 (k : Nat) ∧ Hid (Sp.Sep w wr [rowS 28 5 u3 k ((L.take k).flatMap cdC)]))
  case atStart => exact ⟨0, _, by omega, rfl, rfl, rfl, H2⟩
  case round =>
    obtain ⟨k, u3, hk, hgk, rfl, rfl, HS⟩ := hrel
    have HGK := Lib.hid hgk
    clear hgk H2
    by_cases hkn : k < n
    · have hl : (k : Int) < (n : Int) := by omega
      have wk : IntKind.i64.wrap ((k : Int) + 1) = (k : Int) + 1 := IntWalk.i64_in _ (by have := HN.out; omega)
      obtain ⟨x, hx⟩ : ∃ x, L[k]? = some x := ⟨_, List.getElem?_eq_getElem (by have := HL.out; omega)⟩
      have HXK := Lib.hid hx
      obtain ⟨g, o, rfl, hc⟩ := (HC.out.later HS.out.below).rc (by omega)
      have C := hc k x hx
      have c0 := C.c0
      have c1 := C.c1
      have c2 := C.c2
      have c3 := C.c3
      have c4 := C.c4
      have HRF := Lib.hid (ref_any x wr)
      have HK9 : Hid (k < 900) := Lib.hid (by have := HN.out; omega)
      clear hc hx C
      go_wp2_with (first
        | (go_at_call 12; refine HRF.out.mono ?_; rintro e5 w5 ⟨rfl, hb5⟩; have H5 := Lib.hid (HS.out.later hb5); clear hb5;
           obtain ⟨v7, w7, hap, S7⟩ := rows_pushS (k := 0) (cs := cdC x) H5.out rfl Try.underlying32 rcand_infos rfl (by decide) (by decide) (by have := HK9.out; omega) rfl (cd_one x);
           have H8 : Hid (Sp.Sep w w7 [rowS 28 5 v7 (k + 1) ((L.take (k + 1)).flatMap cdC)]) := Lib.hid (by rw [cut_flat HXK.out]; exact S7);
           replace hap : (Builtin.append_ #[32, 32] 32 #[u3, .slice (some ⟨w5.heap.size, 0, none⟩) 1 1]).run Try.prog (w5.alloc (.cells #[.int .i64 x.s, .int .i64 x.l, .int .i64 x.v, .int .i64 x.n, .int .u64 x.a] 28)) = .ok v7 w7 := hap;
           clear S7)
        | (with_reducible refine wpList_append_run (w5.alloc (.cells #[.int .i64 x.s, .int .i64 x.l, .int .i64 x.v, .int .i64 x.n, .int .u64 x.a] 28)) rfl (.tmp 12) (.tmp 18) 32 32 rfl u3 (.slice (some ⟨w5.heap.size, 0, none⟩) 1 1) rfl rfl v7 w7 hap ?_))
      go_roundg (n - (k + 1))
      case measure => have := HGK.out; omega
      case rel => exact ⟨k + 1, v7, by omega, by have := HGK.out; omega, rfl, by go_num, H8⟩
    · obtain rfl : k = n := by omega
      have hl : ¬ (k : Int) < (k : Int) := by omega
      obtain ⟨A5, p5, rfl⟩ := rows_slice HS.out (k := 0) rfl
      have HV := Lib.hid (CR.of_row HS.out (k := 0) rfl (by rw [List.length_take]; have := HL.out; omega))
      have HT : L.take k = L := List.take_of_length_le (by have := HL.out; omega)
      rw [HT] at HV
      clear HT
      go_wp2_with fail
      go_ret
      exact ⟨A5, ⟨p5, rfl⟩, HV.out, hg0 ▸ HS.out.below⟩
end Go.Proofs.Ytgepkomomjmmhaa.Vi
