/- The document's New: a table whose lists are new; no memory that was there is changed. -/
import Derived.Test.YtpgbbbgblgkokaaTbS
namespace Go.Proofs.Ytpgbbbgblgkokaa
open Go.RowKit Go.Lib
set_option linter.unusedVariables false

theorem fresh_one {W : World} {b base : Nat} {t : TypeId} {v : Value} (h : Blk W b t #[v]) (hb : base ≤ b) : Fresh W base (some ⟨b, 0, none⟩) 1 := fun _ =>
  ⟨b, 0, rfl, hb, fun j hj => by obtain rfl : j = 0 := by omega
                                 exact ⟨⟨v, h.cell 0⟩, h.frozen 0⟩⟩
set_option maxHeartbeats 1000000 in
theorem rnew_own (sg st first : Int) (w : World) : Calls Try.prog 10 #[.int .i64 sg, .int .i64 st, .int .u64 first] w (RefF (if sizeB sg st = true then newT sg st first else zeroT) (if sizeB sg st = true then 0 else 1) w) := by
  have K0 := Lib.hid (show Blk (w.alloc (.cells #[.int .i64 0, .int .i64 0, .slice none 0 0, .slice none 0 0, .slice none 0 0] 32)) w.heap.size 32 (csT 0 0 none 0 0 none 0 0 none 0 0) from Blk.new w _ _)
  have B0 := Lib.hid (below1 w (.cells #[.int .i64 0, .int .i64 0, .slice none 0 0, .slice none 0 0, .slice none 0 0] 32))
  have hv := Try.zeroValue32
  obtain ⟨b, Hb⟩ : ∃ b, Hid (sizeB sg st = b) := ⟨_, Lib.hid rfl⟩
  rw [Hb.out]
  cases b with
  | false =>
    rw [if_neg (by decide), if_neg (by decide)]
    go_enter Try.func10, Try.ntmps10
    go_wp2_with fail
    refine (may_is sg st _ _ Hb.out).mono ?_
    rintro e w' ⟨rfl, rfl⟩
    go_wp2_with (with_reducible refine store_r rfl (.tmp 6) (.tmp 12) rfl w.heap.size rfl rfl K0.out ?_)
    exact bodyPost_ret (res_r2 (y := .int .i64 1) rfl _ _ w.heap.size rfl rfl (K0.out.row _)) rfl (zero_reff 1 w _ (below_row B0.out (Nat.le_refl _) _))
  | true =>
    rw [if_pos rfl, if_pos rfl]
    obtain ⟨W1, hW1⟩ : ∃ W1, Hid ((((w.alloc (.cells #[.int .i64 0, .int .i64 0, .slice none 0 0, .slice none 0 0, .slice none 0 0] 32)).alloc (.cells #[.int .i64 0] 3)).alloc (.cells #[.int .i64 0] 3)).alloc (.cells #[.int .u64 first] 23) = W1) := ⟨_, Lib.hid rfl⟩
    have b1 := below1 (w.alloc (.cells #[.int .i64 0, .int .i64 0, .slice none 0 0, .slice none 0 0, .slice none 0 0] 32)) (.cells #[.int .i64 0] 3)
    have b2 := below1 ((w.alloc (.cells #[.int .i64 0, .int .i64 0, .slice none 0 0, .slice none 0 0, .slice none 0 0] 32)).alloc (.cells #[.int .i64 0] 3)) (.cells #[.int .i64 0] 3)
    have b3 := below1 (((w.alloc (.cells #[.int .i64 0, .int .i64 0, .slice none 0 0, .slice none 0 0, .slice none 0 0] 32)).alloc (.cells #[.int .i64 0] 3)).alloc (.cells #[.int .i64 0] 3)) (.cells #[.int .u64 first] 23)
    have K3 := ((K0.out.later b1).later b2).later b3
    have X1 := ((Blk.at_ (b := w.heap.size + 1) (w.alloc (.cells #[.int .i64 0, .int .i64 0, .slice none 0 0, .slice none 0 0, .slice none 0 0] 32)) 3 #[.int .i64 0] (by simp)).later b2).later b3
    have X2 := (Blk.at_ (b := w.heap.size + 1 + 1) ((w.alloc (.cells #[.int .i64 0, .int .i64 0, .slice none 0 0, .slice none 0 0, .slice none 0 0] 32)).alloc (.cells #[.int .i64 0] 3)) 3 #[.int .i64 0] (by simp)).later b3
    have X3 := Blk.at_ (b := w.heap.size + 1 + 1 + 1) (((w.alloc (.cells #[.int .i64 0, .int .i64 0, .slice none 0 0, .slice none 0 0, .slice none 0 0] 32)).alloc (.cells #[.int .i64 0] 3)).alloc (.cells #[.int .i64 0] 3)) 23 #[.int .u64 first] (by simp)
    have BB := Ge.trans (Ge.trans (Ge.trans B0.out b1) b2) b3
    rw [hW1.out] at K3 X1 X2 X3 BB
    have HK := Lib.hid K3
    clear K3 b1 b2 b3
    go_enter Try.func10, Try.ntmps10
    go_wp2_with fail
    refine (may_is sg st _ _ Hb.out).mono ?_
    rintro e w' ⟨rfl, rfl⟩
    go_wp2_with (rw [hW1.out]; with_reducible refine store_r rfl (.tmp 6) (.tmp 19) rfl w.heap.size rfl rfl HK.out ?_)
    exact bodyPost_ret (res_r2 rfl _ _ w.heap.size rfl rfl (HK.out.row _)) rfl ⟨_, 1, _, _, 1, _, _, 1, _, rfl, ⟨sl_one (X1.far (by omega) _), sl_one (X2.far (by omega) _), sl_one (X3.far (by omega) _)⟩, ⟨fresh_one (X1.far (by omega) _) (by omega), fresh_one (X2.far (by omega) _) (by omega), fresh_one (X3.far (by omega) _) (by omega)⟩, below_row BB (Nat.le_refl _) _⟩
end Go.Proofs.Ytpgbbbgblgkokaa
