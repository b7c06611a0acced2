/- What the program's Upto, ofSession and the sort's closure do. -/
import Derived.Test.YtckakkocblkcoaaReP
namespace Go.Proofs.Ytckakkocblkcoaa.Re
open Go.RowKit Go.Lib
open Sp
set_option linter.unusedVariables false
set_option maxRecDepth 100000

abbrev rcA (r : Rec) : Array Value := #[.int .u64 r.l, .int .u32 r.e, .int .i64 r.k, .int .u64 r.v, .int .u64 r.d, .string r.i, .string r.a]
theorem RC.blk {w : World} {g : Nat} {T : TypeId} {r : Rec} (h : Sp.Blk w g T (rcA r)) : RC w g 0 r :=
  RC.of fun j hj => by rw [Nat.zero_add, h.cell]; simp [rcC]
set_option maxHeartbeats 16000000 in
theorem upto_any {w : World} {A : Option Addr} {n : Nat} (p : Nat) {L : List Rec} (ver : Int) (h : RR w A n L) (hn : n ≤ 200) :
    Calls Try.prog 18 #[.slice A n p, .int .u64 ver] w fun e w' => ∃ A' p', e = .returned (.slice A' (upL L ver).length p') ∧ RR w' A' (upL L ver).length (upL L ver) ∧ Below w.heap.size w w' := by
  have HR := Lib.hid h
  have HN := Lib.hid hn
  have HI0 : Hid (Sp.Sep w w [rowS 42 7 (.slice none 0 0) 0 []]) := Lib.hid (rows_nil (Sp.Sep.nil (Below.refl _ _)) 42 7)
  clear h hn
  go_enter Try.func18, Try.ntmps18
  go_wp2_with fail
  go_loopg [5, 10] n (fun gk s5 s6 wr => ∃ (i : Nat) (A' : Option Addr) (p' : Nat), i ≤ n ∧ gk = n - i ∧ s5 = .slice A' (upL (L.take i) ver).length p' ∧ s6 = .int .i64 (i : Nat) ∧ Hid (Sp.Sep w wr [rowS 42 7 (.slice A' (upL (L.take i) ver).length p') (upL (L.take i) ver).length ((upL (L.take i) ver).flatMap rcC)]))
  case atStart => exact ⟨0, _, _, by omega, rfl, rfl, rfl, HI0⟩
  case round =>
    obtain ⟨i, A', p', hi, hgk, rfl, rfl, HI⟩ := hrel
    have HGK := Lib.hid hgk
    clear hgk HI0
    by_cases hlt : i < n
    · have hli : (i : Int) < (n : Int) := by omega
      obtain ⟨r, hr⟩ : ∃ r, L[i]? = some r := ⟨_, List.getElem?_eq_getElem (by rw [← HR.out.len]; exact hlt)⟩
      obtain ⟨g, o, rfl, hc⟩ := HR.out.rc (by omega)
      have R := (hc i r hr).later HI.out.below
      have x0 := R.c0
      have x1 := R.c1
      have x2 := R.c2
      have x3 := R.c3
      have x4 := R.c4
      have x5 := R.c5
      have x6 := R.c6
      have wi : IntKind.i64.wrap ((i : Int) + 1) = (i : Int) + 1 := IntWalk.i64_in _ (by have := HN.out; omega)
      have HT := Lib.hid (take_one hr)
      have S1 := HI.out.alloc (.cells (rcA r) 42)
      have B1 : Sp.Blk (wr.alloc (.cells (rcA r) 42)) wr.heap.size 42 (rcA r) := Sp.Blk.new wr _ _
      go_upto_region 5 with fail
      change Code.wp _ _ _ _ (wr.alloc (.cells (rcA r) 42))
      clear x0 x1 x2 x3 x4 x5 x6 R hc
      have RB := RC.blk B1
      have S := S1
      clear S1 B1
      generalize wr.alloc (.cells (rcA r) 42) = w2 at *
      obtain ⟨b, eb⟩ : ∃ z, wr.heap.size = z := ⟨_, rfl⟩
      rw [eb] at RB ⊢
      clear eb
      have x0 := RB.c0
      have x1 := RB.c1
      have x2 := RB.c2
      have x3 := RB.c3
      have x4 := RB.c4
      have x5 := RB.c5
      have x6 := RB.c6
      obtain ⟨m, em⟩ : ∃ m, (upL (L.take i) ver).length = m := ⟨_, rfl⟩
      have hm : m < 1000 := by
        have h1 : (upL (L.take i) ver).length ≤ (L.take i).length := List.length_filter_le _ _
        rw [em, List.length_take] at h1
        have := HN.out
        omega
      have HM := Lib.hid em
      have HS := Lib.hid S
      rw [em] at S ⊢
      clear em RB
      by_cases hv : r.v ≤ ver
      · have HE : Hid (upL (L.take (i + 1)) ver = upL (L.take i) ver ++ [r]) := Lib.hid (by rw [HT.out]; simp [upL, hv])
        have HZS : (Value.agg #[.int .u64 0, .int .u32 0, .int .i64 0, .int .u64 0, .int .u64 0, .string ⟨#[]⟩, .string ⟨#[]⟩]).cells.size = 7 := rfl
        have HLN := rcC_len r
        have HC1 := rc_one r
        go_upto_region 7 with (refine wp_append_s (cs := rcC r) prec_infos HZS (by decide) (by decide) Try.underlying22 rfl (.tmp 18) (.tmp 20) rfl rfl rfl S 0 rfl hm HLN HC1 ?_; intro v3 w15 h15; clear HZS HLN HC1 x0 x1 x2 x3 x4 x5 x6; obtain ⟨A9, p9, rfl⟩ := rows_slice h15 (k := 0) rfl; have H15 := Lib.hid h15; clear h15 S)
        have E2 : m + 1 = (upL (L.take (i + 1)) ver).length := by rw [HE.out, List.length_append, HM.out]; rfl
        have H16 : Hid (Sp.Sep w w15 [rowS 42 7 (.slice A9 (upL (L.take (i + 1)) ver).length p9) (upL (L.take (i + 1)) ver).length ((upL (L.take (i + 1)) ver).flatMap rcC)]) := Lib.hid (by
          rw [← E2, HE.out, List.flatMap_append]
          simpa using H15.out)
        clear H15
        go_wp2_with fail
        go_roundg (n - (i + 1))
        case measure => have := HGK.out; omega
        case rel => exact ⟨i + 1, A9, p9, by omega, by have := HGK.out; omega, by rw [E2], by go_num, H16⟩
      · have HE : Hid (upL (L.take (i + 1)) ver = upL (L.take i) ver) := Lib.hid (by rw [HT.out]; simp [upL, hv])
        clear S x0 x1 x2 x4 x5 x6
        go_wp2_with fail
        go_roundg (n - (i + 1))
        case measure => have := HGK.out; omega
        case rel => exact ⟨i + 1, A', p', by omega, by have := HGK.out; omega, by rw [HE.out, HM.out], by go_num, Lib.hid (by rw [HE.out]; exact HS.out)⟩
    · obtain rfl : n = i := by omega
      have hti : L.take n = L := by rw [HR.out.len, List.take_length]
      have HF := Lib.hid (RR.of_row (L := upL (L.take n) ver) HI.out (k := 0) rfl rfl)
      rw [hti] at HF ⊢
      have HB := Lib.hid HI.out.below
      clear HI hti
      go_wp2_with fail
      go_ret
      first | exact ⟨A', p', rfl, HF.out, HB.out⟩ | exact ⟨A', ⟨p', rfl⟩, HF.out, HB.out⟩

theorem ofs_any (r : Rec) (w : World) : Calls Try.prog 23 #[.agg (rcA r)] w fun e w' => e = .returned (.bool (isL r)) ∧ Below w.heap.size w w' := by
  have HB := Lib.hid (below1 w (.cells (rcA r) 42))
  unfold isL
  by_cases h1 : r.k = 1
  · go_enter Try.func23, Try.ntmps23
    have q : ((r.k : Int) == 1) = true := by rw [h1]; rfl
    have q' : decide (r.k = 1) = true := decide_eq_true h1
    go_wp2_with fail
    go_ret
    exact ⟨by simp [h1], HB.out⟩
  · by_cases h2 : r.k = 2
    · go_enter Try.func23, Try.ntmps23
      have q : ((r.k : Int) == 1) = false := by simpa using h1
      have q' : ((r.k : Int) == 2) = true := by rw [h2]; rfl
      go_wp2_with fail
      go_ret
      exact ⟨by simp [h2], HB.out⟩
    · go_enter Try.func23, Try.ntmps23
      have q : ((r.k : Int) == 1) = false := by simpa using h1
      have q' : ((r.k : Int) == 2) = false := by simpa using h2
      go_wp2_with fail
      go_ret
      exact ⟨by simp [h1, h2], HB.out⟩
end Go.Proofs.Ytckakkocblkcoaa.Re
