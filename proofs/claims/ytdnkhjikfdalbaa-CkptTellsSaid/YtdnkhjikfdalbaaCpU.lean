/- The contract of the document's own Best (lodgerref07). -/
import Derived.Test.YtdnkhjikfdalbaaCpS
namespace Go.Proofs.Ytdnkhjikfdalbaa
open Go.RowKit Go.Lib Wd Cr
set_option linter.unusedVariables false

theorem res_r3 {fn : Func} {p' q' r' : Tmp} (h : fn.results = #[.cell p' 32, .tmp q', .tmp r']) (tmps : Array Value) (W : World) (b : Nat) {g e l v : Int} {A : Option Addr} {m p : Nat} {B : Option Addr} {k q : Nat} {t : TypeId} {y z : Value} (hp : tmps.getD p' undef = .pointer (some ⟨b, 0, none⟩)) (hq : tmps.getD q' undef = y) (hr : tmps.getD r' undef = z) (L : Blk W b t (csC g e l v A m p B k q)) :
    (results fn tmps).run Try.prog W = .ok (.tuple #[.agg #[.int .u64 g, .int .u32 e, .int .u64 l, .int .u64 v, .slice A m p, .slice B k q], y, z]) W := by
  have hp' : tmps[p']?.getD undef = .pointer (some ⟨b, 0, none⟩) := by simpa using hp
  have hq' : tmps[q']?.getD undef = y := by simpa using hq
  have hr' : tmps[r']?.getD undef = z := by simpa using hr
  have h1 : (loadVar 32 ⟨b, 0, none⟩).run Try.prog W = .ok (.agg #[.int .u64 g, .int .u32 e, .int .u64 l, .int .u64 v, .slice A m p, .slice B k q]) W := run_loadVar_row W b t 32 (csC g e l v A m p B k q) (0, 0) _ L Try.underlying32 rfl info_r
  simp [results, h, hp', hq', hr', asAddr, h1]

namespace R7
set_option maxHeartbeats 2000000 in
set_option maxRecDepth 100000 in
theorem best_any (s t : ByteArray) (w : World) (hs : s.size ≤ maxLen) (ht : t.size ≤ maxLen) : Calls Try.prog 16 #[.string s, .string t] w (BestP s t w) := by
  have C0 := Lib.hid (fun w => decode_any s w hs)
  have C1 := Lib.hid (fun w => decode_any t w ht)
  have Z : Blk (w.alloc (.cells #[.int .u64 0, .int .u32 0, .int .u64 0, .int .u64 0, .slice none 0 0, .slice none 0 0] 32)) w.heap.size 32 (csC 0 0 0 0 none 0 0 none 0 0) := Blk.new w 32 _
  have B := below1 w (.cells #[.int .u64 0, .int .u32 0, .int .u64 0, .int .u64 0, .slice none 0 0, .slice none 0 0] 32)
  obtain ⟨y0, E0⟩ : ∃ y, Hid (decE s.data.toList = y) := ⟨_, Lib.hid rfl⟩
  obtain ⟨y1, E1⟩ : ∃ y, Hid (decE t.data.toList = y) := ⟨_, Lib.hid rfl⟩
  go_enter Try.func16, Try.ntmps16
  go_wp2_with fail
  refine ((C0.out _)).mono ?_
  rintro e' u0 ⟨hb, x0, rfl, hx⟩
  replace B := Wd.Ge.trans B hb
  replace Z := Z.later hb
  have X0 := hx.mono (show w.heap.size + 1 ≤ _ from by simp)
  clear hb hx
  have X0c := X0
  obtain ⟨A0, m0, p0, B0, k0, q0, rfl, _⟩ := X0c
  obtain ⟨g0, EG0⟩ : ∃ g, Hid ((decC s.data.toList).g = g) := ⟨_, Lib.hid rfl⟩
  obtain ⟨e0, EE0⟩ : ∃ g, Hid ((decC s.data.toList).e = g) := ⟨_, Lib.hid rfl⟩
  obtain ⟨l0, EL0⟩ : ∃ g, Hid ((decC s.data.toList).l = g) := ⟨_, Lib.hid rfl⟩
  obtain ⟨v0, EV0⟩ : ∃ g, Hid ((decC s.data.toList).v = g) := ⟨_, Lib.hid rfl⟩
  rw [EG0.out, EE0.out, EL0.out, EV0.out] at X0 ⊢
  rw [E0.out]
  have F0 : Blk (u0.alloc (.cells #[.int .u64 0, .int .u32 0, .int .u64 0, .int .u64 0, .slice none 0 0, .slice none 0 0] 32)) u0.heap.size 32 (csC 0 0 0 0 none 0 0 none 0 0) := Blk.new u0 32 _
  go_upto_region 2 with (with_reducible refine store_r rfl (.tmp 7) (.tmp 14) rfl u0.heap.size rfl rfl F0 ?_; rw [World.setRow_alloc_new])
  have hb := below1 u0 (.cells (csC g0 e0 l0 v0 A0 m0 p0 B0 k0 q0) 32)
  replace B := Wd.Ge.trans B hb
  replace Z := Z.later hb
  replace X0 := X0.later hb
  have N0 : Blk (u0.alloc (.cells (csC g0 e0 l0 v0 A0 m0 p0 B0 k0 q0) 32)) u0.heap.size 32 (csC g0 e0 l0 v0 A0 m0 p0 B0 k0 q0) := Blk.new _ _ _
  have hle0 : w.heap.size + 1 ≤ (u0.alloc (.cells (csC g0 e0 l0 v0 A0 m0 p0 B0 k0 q0) 32)).heap.size := by have := Z.lt; omega
  generalize u0.alloc (.cells (csC g0 e0 l0 v0 A0 m0 p0 B0 k0 q0) 32) = w0 at *
  generalize u0.heap.size = b0 at *
  clear hb F0
  go_wp2_with fail
  refine ((C1.out _)).mono ?_
  rintro e' u1 ⟨hb, x1, rfl, hx⟩
  replace B := Wd.Ge.trans B hb
  replace Z := Z.later hb
  replace X0 := X0.later hb
  replace N0 := N0.later hb
  have hle := hle0
  have X1 := hx.mono (show w.heap.size + 1 ≤ _ from hle)
  clear hb hx
  have X1c := X1
  obtain ⟨A1, m1, p1, B1, k1, q1, rfl, _⟩ := X1c
  obtain ⟨g1, EG1⟩ : ∃ g, Hid ((decC t.data.toList).g = g) := ⟨_, Lib.hid rfl⟩
  obtain ⟨e1, EE1⟩ : ∃ g, Hid ((decC t.data.toList).e = g) := ⟨_, Lib.hid rfl⟩
  obtain ⟨l1, EL1⟩ : ∃ g, Hid ((decC t.data.toList).l = g) := ⟨_, Lib.hid rfl⟩
  obtain ⟨v1, EV1⟩ : ∃ g, Hid ((decC t.data.toList).v = g) := ⟨_, Lib.hid rfl⟩
  rw [EG1.out, EE1.out, EL1.out, EV1.out] at X1 ⊢
  rw [E1.out]
  have F1 : Blk (u1.alloc (.cells #[.int .u64 0, .int .u32 0, .int .u64 0, .int .u64 0, .slice none 0 0, .slice none 0 0] 32)) u1.heap.size 32 (csC 0 0 0 0 none 0 0 none 0 0) := Blk.new u1 32 _
  go_upto_region 3 with (with_reducible refine store_r rfl (.tmp 9) (.tmp 19) rfl u1.heap.size rfl rfl F1 ?_; rw [World.setRow_alloc_new])
  have hb := below1 u1 (.cells (csC g1 e1 l1 v1 A1 m1 p1 B1 k1 q1) 32)
  replace B := Wd.Ge.trans B hb
  replace Z := Z.later hb
  replace X1 := X1.later hb
  have N1 : Blk (u1.alloc (.cells (csC g1 e1 l1 v1 A1 m1 p1 B1 k1 q1) 32)) u1.heap.size 32 (csC g1 e1 l1 v1 A1 m1 p1 B1 k1 q1) := Blk.new _ _ _
  replace X0 := X0.later hb
  replace N0 := N0.later hb
  generalize u1.alloc (.cells (csC g1 e1 l1 v1 A1 m1 p1 B1 k1 q1) 32) = w1 at *
  generalize u1.heap.size = b1 at *
  clear hb F1 hle hle0 C0 C1
  have cg0 : w1.cell? ⟨b0, 0, none⟩ = some (.int .u64 g0) := N0.cell 0
  have cg1 : w1.cell? ⟨b1, 0, none⟩ = some (.int .u64 g1) := N1.cell 0
  have HN0 := Lib.hid N0
  have HN1 := Lib.hid N1
  have HX0 := Lib.hid X0
  have HX1 := Lib.hid X1
  have HZ := Lib.hid Z
  have HB := Lib.hid B
  clear N0 N1 X0 X1 Z B
  cases hsec0 : isSec s.data.toList <;> cases hsec1 : isSec t.data.toList
  case false.false =>
    obtain rfl : 5 = y0 := by rw [← E0.out, (dec_no hsec0).2]
    obtain rfl : 5 = y1 := by rw [← E1.out, (dec_no hsec1).2]
    go_wp2_with (with_reducible refine store_r rfl (.tmp 4) (.tmp 37) rfl w.heap.size rfl rfl HZ.out ?_)
    obtain ⟨h1, h2, h3⟩ := bestE_no hsec0 hsec1
    refine bodyPost_ret (res_r3 rfl _ _ w.heap.size rfl rfl rfl (HZ.out.row _)) rfl ⟨below_row HB.out (Nat.le_refl _) _, .agg #[.int .u64 0, .int .u32 0, .int .u64 0, .int .u64 0, .slice none 0 0, .slice none 0 0], ?_, ?_⟩
    · rw [h1, h2]; rfl
    · rw [h3]; exact zero_new _ _
  all_goals
    have hE := Lib.hid (bestE_yes (a := s.data.toList) (b := t.data.toList) (by rw [hsec0, hsec1]; decide))
  case true.true =>
    obtain rfl : 0 = y0 := by rw [← E0.out, (dec_yes hsec0).2]
    obtain rfl : 0 = y1 := by rw [← E1.out, (dec_yes hsec1).2]
    clear hsec0 hsec1 E0 E1
    by_cases hg : g0 < g1
    · go_wp2_with (first
        | (with_reducible refine load_r rfl (.tmp 9) rfl b1 rfl HN1.out ?_)
        | (with_reducible refine store_r rfl (.tmp 4) (.tmp 34) rfl w.heap.size rfl rfl HZ.out ?_))
      refine bodyPost_ret (res_r3 rfl _ _ w.heap.size rfl rfl rfl (HZ.out.row _)) rfl ⟨below_row HB.out (Nat.le_refl _) _, .agg #[.int .u64 g1, .int .u32 e1, .int .u64 l1, .int .u64 v1, .slice A1 m1 p1, .slice B1 k1 q1], ?_, ?_⟩
      · rw [hE.out]
        unfold bestI
        rw [if_pos (by rw [EG0.out, EG1.out]; exact hg)]
        rfl
      · unfold bestC
        rw [if_pos (by rw [EG0.out, EG1.out]; exact hg)]
        exact (HX1.out.row (by omega) _).mono (by omega)
    · go_wp2_with (first
        | (with_reducible refine load_r rfl (.tmp 7) rfl b0 rfl HN0.out ?_)
        | (with_reducible refine store_r rfl (.tmp 4) (.tmp 38) rfl w.heap.size rfl rfl HZ.out ?_))
      refine bodyPost_ret (res_r3 rfl _ _ w.heap.size rfl rfl rfl (HZ.out.row _)) rfl ⟨below_row HB.out (Nat.le_refl _) _, .agg #[.int .u64 g0, .int .u32 e0, .int .u64 l0, .int .u64 v0, .slice A0 m0 p0, .slice B0 k0 q0], ?_, ?_⟩
      · rw [hE.out]
        unfold bestI
        rw [if_neg (by rw [EG0.out, EG1.out]; omega)]
        rfl
      · unfold bestC
        rw [if_neg (by rw [EG0.out, EG1.out]; omega)]
        exact (HX0.out.row (by omega) _).mono (by omega)
  case true.false =>
    obtain rfl : 0 = y0 := by rw [← E0.out, (dec_yes hsec0).2]
    obtain rfl : 5 = y1 := by rw [← E1.out, (dec_no hsec1).2]
    have hg : ¬ g0 < g1 := by
      have h0 := (dec_g0 s.data.toList).1
      have h1 := EG1.out
      rw [(dec_no hsec1).1] at h1
      rw [EG0.out] at h0
      have : zeroC.g = 0 := rfl
      omega
    clear hsec0 hsec1 E0 E1
    go_wp2_with (first
      | (with_reducible refine load_r rfl (.tmp 7) rfl b0 rfl HN0.out ?_)
      | (with_reducible refine store_r rfl (.tmp 4) (.tmp 38) rfl w.heap.size rfl rfl HZ.out ?_))
    refine bodyPost_ret (res_r3 rfl _ _ w.heap.size rfl rfl rfl (HZ.out.row _)) rfl ⟨below_row HB.out (Nat.le_refl _) _, .agg #[.int .u64 g0, .int .u32 e0, .int .u64 l0, .int .u64 v0, .slice A0 m0 p0, .slice B0 k0 q0], ?_, ?_⟩
    · rw [hE.out]
      unfold bestI
      rw [if_neg (by rw [EG0.out, EG1.out]; omega)]
      rfl
    · unfold bestC
      rw [if_neg (by rw [EG0.out, EG1.out]; omega)]
      exact (HX0.out.row (by omega) _).mono (by omega)
  case false.true =>
    obtain rfl : 5 = y0 := by rw [← E0.out, (dec_no hsec0).2]
    obtain rfl : 0 = y1 := by rw [← E1.out, (dec_yes hsec1).2]
    have hg : g0 < g1 := by
      have h1 := (dec_g0 t.data.toList).2 hsec1
      have h0 := EG0.out
      rw [(dec_no hsec0).1] at h0
      rw [EG1.out] at h1
      have : zeroC.g = 0 := rfl
      omega
    clear hsec0 hsec1 E0 E1
    go_wp2_with (first
      | (with_reducible refine load_r rfl (.tmp 9) rfl b1 rfl HN1.out ?_)
      | (with_reducible refine store_r rfl (.tmp 4) (.tmp 34) rfl w.heap.size rfl rfl HZ.out ?_))
    refine bodyPost_ret (res_r3 rfl _ _ w.heap.size rfl rfl rfl (HZ.out.row _)) rfl ⟨below_row HB.out (Nat.le_refl _) _, .agg #[.int .u64 g1, .int .u32 e1, .int .u64 l1, .int .u64 v1, .slice A1 m1 p1, .slice B1 k1 q1], ?_, ?_⟩
    · rw [hE.out]
      unfold bestI
      rw [if_pos (by rw [EG0.out, EG1.out]; exact hg)]
      rfl
    · unfold bestC
      rw [if_pos (by rw [EG0.out, EG1.out]; exact hg)]
      exact (HX1.out.row (by omega) _).mono (by omega)

end R7
end Go.Proofs.Ytdnkhjikfdalbaa
