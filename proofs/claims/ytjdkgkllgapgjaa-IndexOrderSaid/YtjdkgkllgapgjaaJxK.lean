/- What the program's index must do (Prg); the statements' filled, over that. -/
import Derived.Test.YtjdkgkllgapgjaaJxF
import Derived.Test.YtjdkgkllgapgjaaJxO
namespace Go.Proofs.Ytjdkgkllgapgjaa.Ix
open Go.RowKit Go.Lib
open Re (Rec Key isL rcA RR RC cut80 cutR ROk)
open Sp
set_option linter.unusedVariables false
set_option maxRecDepth 100000

/-- What the program's index must do, in whatever form it keeps it. -/
structure Prg (XI : Nat → Idx → Sp.Item) : Prop where
  nw : ∀ {W w : World} {items : List Sp.Item}, Sp.Sep W w items → Calls Try.prog 17 #[] w fun e w' => ∃ g, e = .returned (.pointer (some ⟨g, 0, none⟩)) ∧ Sp.Sep W w' (items ++ [XI g ⟨[], []⟩])
  ad : ∀ {W w : World} {items : List Sp.Item} {k g : Nat} {x : Idx} (r : Rec) (s p : Int), 0 ≤ s → 0 ≤ p → I64 s → I64 p → Sp.Sep W w items → items[k]? = some (XI g x) → Good x → RF r → x.S.length < 200 → Calls Try.prog 18 #[.pointer (some ⟨g, 0, none⟩), .agg (rcA r), .agg #[.int .i64 s, .int .i64 p]] w fun e w' => e = .returned (.bool (addB x r s p)) ∧ Sp.Sep W w' (items.set k (XI g (addX x r s p)))
  kl : ∀ {W w : World} {items : List Sp.Item} {k g : Nat} {x : Idx} (i : ByteArray), i.size ≤ maxLen → Sp.Sep W w items → items[k]? = some (XI g x) → Good x → Calls Try.prog 8 #[.pointer (some ⟨g, 0, none⟩), .string i] w fun e w' => e = .returned (.bool (liveX x i.toList)) ∧ Sp.Sep W w' (items.set k (XI g (killX x i.toList)))
  go : ∀ {W w : World} {items : List Sp.Item} {k g : Nat} {x : Idx} (s : Int), I64 s → Sp.Sep W w items → items[k]? = some (XI g x) → Good x → Calls Try.prog 19 #[.pointer (some ⟨g, 0, none⟩), .int .i64 s] w fun e w' => e = .returned (.int .i64 (goneN x s : Nat)) ∧ Sp.Sep W w' (items.set k (XI g (goneX x s)))
  ne : ∀ {W w : World} {items : List Sp.Item} {k g : Nat} {x : Idx} (i : ByteArray), i.size ≤ maxLen → Sp.Sep W w items → items[k]? = some (XI g x) → Good x → Calls Try.prog 11 #[.pointer (some ⟨g, 0, none⟩), .string i] w fun e w' => e = .returned (.tuple #[.agg (enO (fndX x i.toList)), .bool (fndX x i.toList).isSome]) ∧ Below w.heap.size w w'
  at' : ∀ {W w : World} {items : List Sp.Item} {k g : Nat} {x : Idx} (s p : Int), I64 s → I64 p → Sp.Sep W w items → items[k]? = some (XI g x) → Good x → Calls Try.prog 12 #[.pointer (some ⟨g, 0, none⟩), .agg #[.int .i64 s, .int .i64 p]] w fun e w' => e = .returned (.tuple #[.string (atV (atX x s p)), .bool (atX x s p).isSome]) ∧ Below w.heap.size w w'
  ot : ∀ {W w : World} {items : List Sp.Item} {k g : Nat} {x : Idx} (i : ByteArray) (s : Int), i.size ≤ maxLen → I64 s → Sp.Sep W w items → items[k]? = some (XI g x) → Good x → Calls Try.prog 16 #[.pointer (some ⟨g, 0, none⟩), .string i, .int .i64 s] w fun e w' => e = .returned (.int .i64 (othX x i.toList s : Nat)) ∧ Below w.heap.size w w'
  lv : ∀ {W w : World} {items : List Sp.Item} {k g : Nat} {x : Idx}, Sp.Sep W w items → items[k]? = some (XI g x) → Good x → Calls Try.prog 13 #[.pointer (some ⟨g, 0, none⟩)] w fun e w' => e = .returned (.int .i64 ((idsX x).length : Nat)) ∧ Below w.heap.size w w'
  in' : ∀ {W w : World} {items : List Sp.Item} {k g : Nat} {x : Idx} (s : Int), I64 s → Sp.Sep W w items → items[k]? = some (XI g x) → Good x → Calls Try.prog 9 #[.pointer (some ⟨g, 0, none⟩), .int .i64 s] w fun e w' => e = .returned (.tuple #[.int .i64 (inN x s : Nat), .int .i64 (inL x s : Nat), .int .i64 (inZ x s)]) ∧ Below w.heap.size w w'
  ids : ∀ {W w : World} {items : List Sp.Item} {k g : Nat} {x : Idx}, Sp.Sep W w items → items[k]? = some (XI g x) → Good x → Calls Try.prog 10 #[.pointer (some ⟨g, 0, none⟩)] w fun e w' => ∃ v, e = .returned v ∧ Below w.heap.size w w' ∧ WR w' v (idsX x)

theorem cut80_size (s : ByteArray) : (cut80 s).size ≤ 80 := by
  unfold cut80
  have h : (min (s.size : Int) 80).toNat ≤ 80 := by omega
  rw [ByteArray.size_extract]
  omega
/-- The index of the first records, one at each place of segments of 4. -/
def flN (L : List Rec) : Nat → Idx
  | 0 => ⟨[], []⟩
  | q + 1 => match L[q]? with
    | some r => addX (flN L q) (cutR r) ((q : Int) / 4) ((q : Int) % 4)
    | none => flN L q
theorem add_len (x : Idx) (r : Rec) (s p : Int) : (addX x r s p).S.length ≤ x.S.length + 1 := by
  unfold addX
  split
  · simp
  · omega
theorem fl_good {L : List Rec} (h : ∀ r ∈ L, ROk r) : ∀ q, q ≤ 100 → Good (flN L q) ∧ (flN L q).S.length ≤ q
  | 0, _ => ⟨Good.nil, Nat.le_refl _⟩
  | q + 1, hq => by
    obtain ⟨h1, h2⟩ := fl_good h q (by omega)
    cases hr : L[q]? with
    | none =>
      simp only [flN, hr]
      exact ⟨h1, by omega⟩
    | some r =>
      simp only [flN, hr]
      have hk := h r (List.mem_of_getElem? hr)
      have hrf : RF (cutR r) := ⟨hk.v, hk.d, cut80_size r.i, cut80_size r.a⟩
      exact ⟨h1.add hrf _ _ (by omega), Nat.le_trans (add_len _ _ _ _) (by omega)⟩
section
variable {W w : World} {items : List Sp.Item} {XI : Nat → Idx → Sp.Item}
set_option maxHeartbeats 8000000 in
theorem filled_any (P : Prg XI) {A : Option Addr} {n p : Nat} {L : List Rec} (h : Sp.Sep W w items) (hR : RR W A n L) (hf : ∀ r ∈ L, ROk r) (hn : n ≤ maxLen) :
    Calls Try.prog 7 #[.slice A n p] w fun e w' => ∃ g, e = .returned (.pointer (some ⟨g, 0, none⟩)) ∧ Sp.Sep W w' (items ++ [XI g (flN L (min n 40))]) := by
  have HNW := Lib.hid (P.nw h)
  have HR := Lib.hid hR
  have HF := Lib.hid hf
  have HML := Lib.hid hn
  have HLEN := Lib.hid hR.len
  clear h hR hf hn
  obtain ⟨m, hm⟩ : ∃ m, min n 40 = m := ⟨_, rfl⟩
  have HM := Lib.hid hm
  rw [hm]
  clear hm
  go_enter Try.func7, Try.ntmps7
  go_upto_region 5 with (first
    | (go_at_call 17; refine HNW.out.mono ?_; rintro e3 w3 ⟨g, rfl, h3⟩; have H3 := Lib.hid h3; clear h3))
  clear HNW
  go_loopg [4] m (fun gk s4 wr => ∃ (q : Nat), q ≤ m ∧ gk = m - q ∧ s4 = .int .i64 (q : Nat) ∧ Hid (Sp.Sep W wr (items ++ [XI g (flN L q)])))
  case atStart => exact ⟨0, by omega, rfl, rfl, H3⟩
  case round =>
    obtain ⟨q, hq, hgk, rfl, HS⟩ := hrel
    have HGK := Lib.hid hgk
    clear hgk H3
    by_cases hlt : q < m
    · have hl1 : (q : Int) < (n : Int) := by have := HM.out; omega
      have hl2 : (q : Int) < 40 := by have := HM.out; omega
      have wi : IntKind.i64.wrap ((q : Int) + 1) = (q : Int) + 1 := IntWalk.i64_in _ (by omega)
      obtain ⟨r, hr⟩ : ∃ r, L[q]? = some r := ⟨_, List.getElem?_eq_getElem (by have := HLEN.out; omega)⟩
      obtain ⟨g2, o, rfl, hc⟩ := (HR.out.later HS.out.below).rc (by omega)
      have C := hc q r hr
      have y0 := C.c0
      have y1 := C.c1
      have y2 := C.c2
      have y3 := C.c3
      have y4 := C.c4
      have y5 := C.c5
      have y6 := C.c6
      have hrk := HF.out r (List.mem_of_getElem? hr)
      obtain ⟨hg, hgl⟩ := fl_good HF.out q (by omega)
      have HFL : Hid (flN L (q + 1) = addX (flN L q) (cutR r) ((q : Int) / 4) ((q : Int) % 4)) := Lib.hid (by simp only [flN, hr])
      have HC := Lib.hid (Re.lawcut_any r.l r.e r.k r.v r.d r.i r.a wr hrk.i hrk.a)
      have hrf : RF (cutR r) := ⟨hrk.v, hrk.d, cut80_size r.i, cut80_size r.a⟩
      have HAD : Hid (∀ w5, Below wr.heap.size wr w5 → Calls Try.prog 18 #[.pointer (some ⟨g, 0, none⟩), .agg #[.int .u64 r.l, .int .u32 r.e, .int .i64 r.k, .int .u64 r.v, .int .u64 r.d, .string (cut80 r.i), .string (cut80 r.a)], .agg #[.int .i64 ((q : Int) / 4), .int .i64 ((q : Int) % 4)]] w5 fun e w' => e = .returned (.bool (addB (flN L q) (cutR r) ((q : Int) / 4) ((q : Int) % 4))) ∧ Sp.Sep W w' (items ++ [XI g (flN L (q + 1))])) := Lib.hid (fun w5 h5 => (P.ad (cutR r) _ _ (by omega) (by omega) (by unfold I64; omega) (by unfold I64; omega) (HS.out.later h5) last_get hg hrf (by omega)).mono (fun e w' h8 => ⟨h8.1, by have := h8.2; rw [last_set, ← HFL.out] at this; exact this⟩))
      clear hc C hrk hg hgl hr hrf HFL HS
      go_wp2_with (first
        | (go_at_call 15; refine HC.out.mono ?_; rintro e5 w5 ⟨rfl, hb5⟩; have HB5 := Lib.hid hb5; clear hb5)
        | (go_at_call 18; refine (HAD.out _ HB5.out).mono ?_; rintro e6 w6 ⟨rfl, h6⟩; have H6 := Lib.hid h6; clear h6))
      go_roundg (m - (q + 1))
      case measure => have := HGK.out; omega
      case rel => exact ⟨q + 1, by omega, by have := HGK.out; omega, by go_num, H6⟩
    · obtain rfl : q = m := by omega
      by_cases hn : n < 40
      · have hl1 : ¬ (q : Int) < (n : Int) := by have := HM.out; omega
        go_wp2_with fail
        go_ret
        exact ⟨_, rfl, HS.out⟩
      · have hl1 : ¬ (q : Int) < 40 := by have := HM.out; omega
        obtain rfl : q = 40 := by have := HM.out; omega
        by_cases hl2 : (40 : Int) < (n : Int)
        all_goals (
          go_wp2_with fail
          go_ret
          exact ⟨_, rfl, HS.out⟩)
end
end Go.Proofs.Ytjdkgkllgapgjaa.Ix
