/- Contracts of New of both sides, and of the document's own Free and own; no memory that was there is changed. -/
import Derived.Test.YtpgbbbgblgkokaaTbF
import Derived.Deep.DeepCutAuto
namespace Go.Proofs.Ytpgbbbgblgkokaa
open Go.RowKit Go.Lib
set_option linter.unusedVariables false

theorem own_cap {w : World} {base : Nat} {e : TypeId} {size n m p : Nat} {A : Option Addr} {xs : List Value} (h : w.ownsRow base e size (.slice A m p) n xs) : m ≤ p := by
  rcases h.2 with ⟨h, _⟩ | ⟨g, cap, cur, h, _, _, hc, _⟩
  · injection h with _ h1 h2; omega
  · injection h with _ h1 h2; omega
/-- What a call of table's tells: a table, and what is wrong. -/
def ResP (t : Tab) (y : Int) (w : World) (en : Ending) (w' : World) : Prop :=
  ∃ A m p B k q C n r, en = .returned (.tuple #[.agg #[.int .i64 t.sg, .int .i64 t.st, .slice A m p, .slice B k q, .slice C n r], .int .i64 y]) ∧ TIn w' A m B k C n t.o t.l t.f ∧ m ≤ p ∧ (Fresh w' w.heap.size A m ∧ Fresh w' w.heap.size B k ∧ Fresh w' w.heap.size C n) ∧ Below w.heap.size w w'
/-- What a call of the document's own tells. -/
def RefP (t : Tab) (y : Int) (w : World) (en : Ending) (w' : World) : Prop :=
  ∃ A m p B k q C n r, en = .returned (.tuple #[.agg #[.int .i64 t.sg, .int .i64 t.st, .slice A m p, .slice B k q, .slice C n r], .int .i64 y]) ∧ TIn w' A m B k C n t.o t.l t.f ∧ Below w.heap.size w w'
/-- A list. -/
def LstP (l : List Int) (w : World) (en : Ending) (w' : World) : Prop := ∃ A m p, en = .returned (.slice A m p) ∧ Sl .i64 w' A m l ∧ Below w.heap.size w w'
theorem fresh_nil (W : World) (b : Nat) (A : Option Addr) : Fresh W b A 0 := fun h => absurd h (by omega)
theorem Rows3.fresh {W : World} {base : Nat} {A : Option Addr} {m p : Nat} {B : Option Addr} {k q : Nat} {C : Option Addr} {n r : Nat} {o l f : List Int} (h : Rows3 base A m p B k q C n r o l f W) : Fresh W base A m ∧ Fresh W base B k ∧ Fresh W base C n := ⟨own_fresh h.a, own_fresh h.b, own_fresh h.c⟩
theorem zero_res (y : Int) (w w' : World) (hb : Below w.heap.size w w') : ResP zeroT y w (.returned (.tuple #[.agg #[.int .i64 0, .int .i64 0, .slice none 0 0, .slice none 0 0, .slice none 0 0], .int .i64 y])) w' :=
  ⟨none, 0, 0, none, 0, 0, none, 0, 0, rfl, TIn.zero _, Nat.le_refl _, ⟨fresh_nil _ _ _, fresh_nil _ _ _, fresh_nil _ _ _⟩, hb⟩
theorem zero_ref (y : Int) (w w' : World) (hb : Below w.heap.size w w') : RefP zeroT y w (.returned (.tuple #[.agg #[.int .i64 0, .int .i64 0, .slice none 0 0, .slice none 0 0, .slice none 0 0], .int .i64 y])) w' :=
  ⟨none, 0, 0, none, 0, 0, none, 0, 0, rfl, TIn.zero _, hb⟩

theorem new_any (sg st first : Int) (w : World) : Calls Try.prog 9 #[.int .i64 sg, .int .i64 st, .int .u64 first] w (ResP (if sizeB sg st = true then newT sg st first else zeroT) (if sizeB sg st = true then 0 else 1) w) := by
  have K0 := Lib.hid (show Blk (w.alloc (.cells #[.int .i64 0, .int .i64 0, .slice none 0 0, .slice none 0 0, .slice none 0 0] 28)) w.heap.size 28 (csT 0 0 none 0 0 none 0 0 none 0 0) from Blk.new w _ _)
  have B0 := Lib.hid (below1 w (.cells #[.int .i64 0, .int .i64 0, .slice none 0 0, .slice none 0 0, .slice none 0 0] 28))
  have hv := Try.zeroValue28
  obtain ⟨b, Hb⟩ : ∃ b, Hid (sizeB sg st = b) := ⟨_, Lib.hid rfl⟩
  rw [Hb.out]
  cases b with
  | false =>
    rw [if_neg (by decide), if_neg (by decide)]
    go_enter Try.func9, Try.ntmps9
    go_wp2_with fail
    refine (size_is sg st _ _ Hb.out).mono ?_
    rintro e w' ⟨rfl, rfl⟩
    go_wp2_with (with_reducible refine store_t rfl (.tmp 6) (.tmp 12) rfl w.heap.size rfl rfl K0.out ?_)
    exact bodyPost_ret (res_t2 (y := .int .i64 1) rfl _ _ w.heap.size rfl rfl (K0.out.row _)) rfl (zero_res 1 w _ (below_row B0.out (Nat.le_refl _) _))
  | true =>
    rw [if_pos rfl, if_pos rfl]
    have C1 := Lib.hid (fun W => opened_any sg st none 0 0 none 0 0 none 0 0 [] [] [] 0 first W (TIn.zero W) (.inl ⟨rfl, rfl⟩) (.inl ⟨rfl, rfl⟩) (.inl ⟨rfl, rfl⟩) (by omega) (by omega) (by omega))
    go_enter Try.func9, Try.ntmps9
    go_wp2_with fail
    refine (size_is sg st _ _ Hb.out).mono ?_
    rintro e w' ⟨rfl, rfl⟩
    go_wp2_with fail
    refine (C1.out _).mono ?_
    rintro e' w1 ⟨A1, p1, B1, q1, C1', r1, rfl, R1, b1⟩
    have K1 := Lib.hid (K0.out.later b1)
    have BB := Lib.hid (Ge.trans B0.out b1)
    have RR := Lib.hid R1
    clear R1 b1 C1
    go_wp2_with (with_reducible refine store_t rfl (.tmp 6) (.tmp 17) rfl w.heap.size rfl rfl K1.out ?_)
    have R2 := RR.out.row (b := w.heap.size) (cs := csT sg st A1 (0 + 1) p1 B1 (0 + 1) q1 C1' (0 + 1) r1) (by simp)
    exact bodyPost_ret (res_t2 rfl _ _ w.heap.size rfl rfl (K1.out.row _)) rfl ⟨A1, 1, p1, B1, 1, q1, C1', 1, r1, rfl, R2.tin, own_cap R2.a, (R2.wide (by simp)).fresh, below_row BB.out (Nat.le_refl _) _⟩

theorem sl_one {κ : IntKind} {W : World} {b : Nat} {t : TypeId} {x : Int} (h : Blk W b t #[.int κ x]) : Sl κ W (some ⟨b, 0, none⟩) 1 [x] := by
  refine ⟨rfl, fun _ => ⟨b, 0, rfl, h.lt, fun j hj => ?_⟩⟩
  obtain rfl : j = 0 := by omega
  exact h.cell 0

set_option maxHeartbeats 1000000 in
theorem rnew_any (sg st first : Int) (w : World) : Calls Try.prog 10 #[.int .i64 sg, .int .i64 st, .int .u64 first] w (RefP (if sizeB sg st = true then newT sg st first else zeroT) (if sizeB sg st = true then 0 else 1) w) := by
  have K0 := Lib.hid (show Blk (w.alloc (.cells #[.int .i64 0, .int .i64 0, .slice none 0 0, .slice none 0 0, .slice none 0 0] 32)) w.heap.size 32 (csT 0 0 none 0 0 none 0 0 none 0 0) from Blk.new w _ _)
  have B0 := Lib.hid (below1 w (.cells #[.int .i64 0, .int .i64 0, .slice none 0 0, .slice none 0 0, .slice none 0 0] 32))
  have hv := Try.zeroValue32
  obtain ⟨b, Hb⟩ : ∃ b, Hid (sizeB sg st = b) := ⟨_, Lib.hid rfl⟩
  rw [Hb.out]
  cases b with
  | false =>
    rw [if_neg (by decide), if_neg (by decide)]
    go_enter Try.func10, Try.ntmps10
    go_wp2_with fail
    refine (may_is sg st _ _ Hb.out).mono ?_
    rintro e w' ⟨rfl, rfl⟩
    go_wp2_with (with_reducible refine store_r rfl (.tmp 6) (.tmp 12) rfl w.heap.size rfl rfl K0.out ?_)
    exact bodyPost_ret (res_r2 (y := .int .i64 1) rfl _ _ w.heap.size rfl rfl (K0.out.row _)) rfl (zero_ref 1 w _ (below_row B0.out (Nat.le_refl _) _))
  | true =>
    rw [if_pos rfl, if_pos rfl]
    obtain ⟨W1, hW1⟩ : ∃ W1, Hid ((((w.alloc (.cells #[.int .i64 0, .int .i64 0, .slice none 0 0, .slice none 0 0, .slice none 0 0] 32)).alloc (.cells #[.int .i64 0] 3)).alloc (.cells #[.int .i64 0] 3)).alloc (.cells #[.int .u64 first] 23) = W1) := ⟨_, Lib.hid rfl⟩
    have b1 := below1 (w.alloc (.cells #[.int .i64 0, .int .i64 0, .slice none 0 0, .slice none 0 0, .slice none 0 0] 32)) (.cells #[.int .i64 0] 3)
    have b2 := below1 ((w.alloc (.cells #[.int .i64 0, .int .i64 0, .slice none 0 0, .slice none 0 0, .slice none 0 0] 32)).alloc (.cells #[.int .i64 0] 3)) (.cells #[.int .i64 0] 3)
    have b3 := below1 (((w.alloc (.cells #[.int .i64 0, .int .i64 0, .slice none 0 0, .slice none 0 0, .slice none 0 0] 32)).alloc (.cells #[.int .i64 0] 3)).alloc (.cells #[.int .i64 0] 3)) (.cells #[.int .u64 first] 23)
    have K3 := ((K0.out.later b1).later b2).later b3
    have X1 := ((Blk.at_ (b := w.heap.size + 1) (w.alloc (.cells #[.int .i64 0, .int .i64 0, .slice none 0 0, .slice none 0 0, .slice none 0 0] 32)) 3 #[.int .i64 0] (by simp)).later b2).later b3
    have X2 := (Blk.at_ (b := w.heap.size + 1 + 1) ((w.alloc (.cells #[.int .i64 0, .int .i64 0, .slice none 0 0, .slice none 0 0, .slice none 0 0] 32)).alloc (.cells #[.int .i64 0] 3)) 3 #[.int .i64 0] (by simp)).later b3
    have X3 := Blk.at_ (b := w.heap.size + 1 + 1 + 1) (((w.alloc (.cells #[.int .i64 0, .int .i64 0, .slice none 0 0, .slice none 0 0, .slice none 0 0] 32)).alloc (.cells #[.int .i64 0] 3)).alloc (.cells #[.int .i64 0] 3)) 23 #[.int .u64 first] (by simp)
    have BB := Ge.trans (Ge.trans (Ge.trans B0.out b1) b2) b3
    rw [hW1.out] at K3 X1 X2 X3 BB
    have HK := Lib.hid K3
    clear K3 b1 b2 b3
    go_enter Try.func10, Try.ntmps10
    go_wp2_with fail
    refine (may_is sg st _ _ Hb.out).mono ?_
    rintro e w' ⟨rfl, rfl⟩
    go_wp2_with (rw [hW1.out]; with_reducible refine store_r rfl (.tmp 6) (.tmp 19) rfl w.heap.size rfl rfl HK.out ?_)
    exact bodyPost_ret (res_r2 rfl _ _ w.heap.size rfl rfl (HK.out.row _)) rfl ⟨_, 1, _, _, 1, _, _, 1, _, rfl, ⟨sl_one (X1.far (by omega) _), sl_one (X2.far (by omega) _), sl_one (X3.far (by omega) _)⟩, below_row BB (Nat.le_refl _) _⟩

/-- While the free segments are put together. -/
structure FrI (w : World) (sg st : Int) (A : Option Addr) (m p : Nat) (B : Option Addr) (k q : Nat) (C : Option Addr) (n r : Nat) (o : List Int) (i : Nat) (D : Option Addr) (c e : Nat) (W : World) : Prop where
  b : Below w.heap.size w W
  z : Blk W w.heap.size 32 (csT sg st A m p B k q C n r)
  d : W.ownsRow (w.heap.size + 1) 3 1 (.slice D c e) c (iv .i64 (freeTo o i))
theorem FrI.later {w W W' : World} {sg st : Int} {A : Option Addr} {m p : Nat} {B : Option Addr} {k q : Nat} {C : Option Addr} {n r : Nat} {o : List Int} {i : Nat} {D : Option Addr} {c e : Nat} (h : FrI w sg st A m p B k q C n r o i D c e W) (hb : Below W.heap.size W W') : FrI w sg st A m p B k q C n r o i D c e W' := ⟨Ge.trans h.b hb, h.z.later hb, own_later h.d hb⟩

set_option maxHeartbeats 2000000 in
theorem rfree_main (N : Nat) (st : Int) (A : Option Addr) (m p : Nat) (B : Option Addr) (k q : Nat) (C : Option Addr) (n r : Nat) (o l f : List Int) (w : World) (h : TIn w A m B k C n o l f) (hm : m ≤ maxLen) (hN : N ≤ 16) :
    Calls Try.prog 18 #[.agg #[.int .i64 (N : Int), .int .i64 st, .slice A m p, .slice B k q, .slice C n r]] w (LstP (freeTo o N) w) := by
  have HT := Lib.hid h
  have hb0 := below1 w (.cells #[.int .i64 (N : Int), .int .i64 st, .slice A m p, .slice B k q, .slice C n r] 32)
  have hb1 := below1 (w.alloc (.cells #[.int .i64 (N : Int), .int .i64 st, .slice A m p, .slice B k q, .slice C n r] 32)) (.cells #[] 3)
  have I0 : Hid (FrI w (N : Int) st A m p B k q C n r o 0 (some ⟨w.heap.size + 1, 0, none⟩) 0 0 ((w.alloc (.cells #[.int .i64 (N : Int), .int .i64 st, .slice A m p, .slice B k q, .slice C n r] 32)).alloc (.cells #[] 3))) := Lib.hid
    ⟨Ge.trans hb0 hb1, (Blk.new w _ _).later hb1, by
      have := World.ownsRow_lit (base := w.heap.size + 1) (e := 3) (size := 1) (w.alloc (.cells #[.int .i64 (N : Int), .int .i64 st, .slice A m p, .slice B k q, .slice C n r] 32)) #[] 0 (by simp) (Nat.zero_le _) rfl
      rw [show (w.alloc (.cells #[.int .i64 (N : Int), .int .i64 st, .slice A m p, .slice B k q, .slice C n r] 32)).heap.size = w.heap.size + 1 by simp] at this
      rw [freeTo_zero]
      exact this⟩
  clear hb0 hb1 h
  go_enter Try.func18, Try.ntmps18
  go_wp2_with fail
  go_loopg [3, 4] N (fun gk s3 s4 wr => ∃ i : Nat, ∃ D c e, i ≤ N ∧ gk = N - i ∧ s4 = .int .i64 i ∧ s3 = .slice D c e ∧ Hid (FrI w (N : Int) st A m p B k q C n r o i D c e wr))
  case atStart => exact ⟨0, _, _, _, by omega, rfl, rfl, rfl, I0⟩
  case round =>
    obtain ⟨i, D, c, e, hi, hgk, rfl, rfl, HI⟩ := hrel
    have HG := Lib.hid hgk
    clear hgk
    have c0 : wr.cell? ⟨w.heap.size, 0, none⟩ = some (.int .i64 (N : Int)) := HI.out.z.cell 0
    by_cases hlt : i < N
    · have hlti : (i : Int) < (N : Int) := by omega
      have HZ := Lib.hid HI.out.z
      obtain ⟨y, HY⟩ : ∃ y, Hid (idx o (i : Int) = y) := ⟨_, Lib.hid rfl⟩
      have K := Lib.hid (in_is (N : Int) st A m p B k q C n r o l f (i : Int) y wr (HT.out.later HI.out.b) hm HY.out)
      by_cases hy : y < 0
      · have HO : Hid ((i : Int) ∉ o) := Lib.hid (idx_neg.1 (by rw [HY.out]; exact hy))
        go_wp2_with (with_reducible refine load_r rfl (.tmp 1) rfl w.heap.size rfl HZ.out ?_)
        refine K.out.mono ?_
        rintro e' w1 ⟨rfl, hb⟩
        have I1 := HI.out.later hb
        have hbb := below1 w1 (.cells #[.int .i64 (i : Int)] 3)
        have I2 := I1.later hbb
        have hcl : c < 1000 := by
          have := I1.d.1
          rw [iv_len] at this
          have := freeTo_len o i
          omega
        obtain ⟨g, e2, W5, hrun, own5, g5, hat, hg⟩ := push_run (T := 25) Try.underlying25 infoI rfl I2.d hcl ((Blk.new w1 3 #[.int .i64 (i : Int)]).cell 0) (by have := I2.z.lt; omega)
        have hrow : ∀ j, ob D = some j → w.heap.size + 1 ≤ j := fun j hj => (I2.d.lt j (by rw [ob_eq]; exact hj)).1
        have I5 : Hid (FrI w (N : Int) st A m p B k q C n r o (i + 1) (some ⟨g, 0, none⟩) (c + 1) e2 W5) := Lib.hid
          ⟨I2.b.grown g5 I2.b.size (fun j hj => by have := hrow j hj; omega), blk_grown I2.z g5 (fun e => by have := hrow _ e.symm; omega), by rw [freeTo_yes HO.out]; exact own5⟩
        have HR := Lib.hid hrun
        clear hrun own5 g5 hat hg hrow I1 I2 hbb hb K c0
        go_wp2_with (at_builtin; refine list_append_run rfl (.tmp 16) (.tmp 18) 25 rfl _ _ rfl rfl HR.out ?_)
        go_roundg (N - (i + 1))
        case measure => have := HG.out; omega
        case rel => exact ⟨i + 1, _, _, _, by omega, rfl, by go_num, rfl, I5⟩
      · have HO : Hid ((i : Int) ∈ o) := Lib.hid (Decidable.byContradiction fun hn => hy (by rw [← HY.out]; exact idx_neg.2 hn))
        go_wp2_with (with_reducible refine load_r rfl (.tmp 1) rfl w.heap.size rfl HZ.out ?_)
        refine K.out.mono ?_
        rintro e' w1 ⟨rfl, hb⟩
        have I1 : Hid (FrI w (N : Int) st A m p B k q C n r o (i + 1) D c e w1) := Lib.hid (by
          have := HI.out.later hb
          exact ⟨this.b, this.z, by rw [freeTo_no HO.out]; exact this.d⟩)
        clear hb K c0
        go_wp2_with fail
        go_roundg (N - (i + 1))
        case measure => have := HG.out; omega
        case rel => exact ⟨i + 1, D, c, e, by omega, rfl, by go_num, rfl, I1⟩
    · obtain rfl : i = N := by omega
      have hlti : ¬ (i : Int) < (i : Int) := by omega
      go_wp2_with fail
      go_ret
      exact ⟨D, c, e, rfl, own_sl HI.out.d, HI.out.b⟩

theorem rfree_any (sg st : Int) (A : Option Addr) (m p : Nat) (B : Option Addr) (k q : Nat) (C : Option Addr) (n r : Nat) (o l f : List Int) (w : World) (h : TIn w A m B k C n o l f) (hm : m ≤ maxLen) (hs : 0 ≤ sg ∧ sg ≤ 16) : Calls Try.prog 18 #[.agg #[.int .i64 sg, .int .i64 st, .slice A m p, .slice B k q, .slice C n r]] w (LstP (freeT ⟨sg, st, o, l, f⟩) w) := by
  obtain ⟨N, rfl⟩ := Int.eq_ofNat_of_zero_le hs.1
  exact rfree_main N st A m p B k q C n r o l f w h hm (by omega)
end Go.Proofs.Ytpgbbbgblgkokaa
