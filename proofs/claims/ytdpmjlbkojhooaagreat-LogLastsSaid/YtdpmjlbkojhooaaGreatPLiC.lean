/- A part of the proofs of the statements about logs. -/
import Derived.Test.YtdpmjlbkojhooaaGreatPLiB
namespace Go.Proofs.YtdpmjlbkojhooaaGreat.Lg
open Go.RowKit Go.Lib
open Tb (Tab TIn Sl okP csT lastN nth Fresh)
open Dk (St Only Grew)
set_option linter.unusedVariables false
set_option maxRecDepth 100000
theorem and255 (n : Int) : bits .and .i64 n 255 = n % 256 := by
  have h255 : (BitVec.ofInt 64 255).toNat = 2 ^ 8 - 1 := by decide
  have key : (BitVec.ofInt 64 n &&& BitVec.ofInt 64 255).toNat = (n % ((2 ^ 64 : Nat) : Int)).toNat % 2 ^ 8 := by
    rw [BitVec.toNat_and, BitVec.toNat_ofInt, h255, Nat.and_two_pow_sub_one_eq_mod]
  show IntKind.i64.wrap ((BitVec.ofInt 64 n &&& BitVec.ofInt 64 255).toNat : Nat) = n % 256
  rw [key, IntKind.wrap_i64]
  omega
section
variable {W w : World} {items : List Dk.Item} {g d c : Nat} {s : St} {t : Tab} {ls gn : Int}
theorem seal_fix {s' : St} {t' : Tab} {ls' er : Int} (h : Dk.Sep W w (Dk.diskI d s :: PLog g d t ls 1 gn :: items)) (hP : LogP c t s ls gn) (hc : c ≤ 1000) (hA : sealS t s ls (footB t ls 1) = (s', t', ls', er)) (he : er ≠ 9) :
    Calls Tryz.prog 31 #[.pointer (some ⟨g, 0, none⟩)] w fun e w' => e = .returned (.int .i64 er) ∧ Dk.Sep W w' (Dk.diskI d s' :: PLog g d t' ls' 1 gn :: items) := by
  have g1 := hP.ls1
  have g2 := hP.ls2
  have g3 := hP.pend
  have H := prg.sealc h (k := 0) (j := 1) rfl rfl (by decide) (by omega) ⟨by decide, by decide⟩ hP.ok hP.fit (by omega)
  rw [hA] at H
  refine H.mono ?_
  rintro e w' ⟨h1, it, h2, h3⟩
  rw [h3 he] at h2
  exact ⟨h1, h2⟩
theorem lsn_fix (h : Dk.Sep W w (Dk.diskI d s :: PLog g d t ls 1 gn :: items)) :
    Calls Tryz.prog 32 #[.pointer (some ⟨g, 0, none⟩)] w fun e w' => e = .returned (.int .u64 ls) ∧ Dk.Sep W w' (Dk.diskI d s :: PLog g d t ls 1 gn :: items) :=
  (prg.lsn h (j := 1) rfl).mono fun e w' ⟨he, hb⟩ => ⟨he, h.later hb⟩
theorem tab_fix (h : Dk.Sep W w (Dk.diskI d s :: PLog g d t ls 1 gn :: items)) :
    Calls Tryz.prog 24 #[.pointer (some ⟨g, 0, none⟩)] w fun e w' => ∃ A m p B k q C n r, e = .returned (.agg #[.int .i64 t.sg, .int .i64 t.st, .slice A m p, .slice B k q, .slice C n r]) ∧ TIn w' A m B k C n t.o t.l t.f ∧ Dk.Sep W w' (Dk.diskI d s :: PLog g d t ls 1 gn :: items) :=
  (prg.tab h (j := 1) rfl).mono fun e w' ⟨A, m, p, B, k, q, C, n, r, W1, he, ht, _, hb⟩ => ⟨A, m, p, B, k, q, C, n, r, he, ht, h.later hb⟩
theorem app_live {s' : St} {t' : Tab} {ls' sg so er v : Int} {x : UInt8} (h : Dk.Sep W w (Dk.diskI d s :: PLog g d t ls 1 gn :: items)) (hP : LogP c t s ls gn) (hc : c ≤ 1000) (hA : appS t s ls 1 1 v 9 (bC x) (bC 118) = (s', t', ls', sg, so, er)) (he : er ≠ 9) (hv : 0 ≤ v ∧ v < 18446744073709551616) :
    Calls Tryz.prog 25 #[.pointer (some ⟨g, 0, none⟩), .agg #[.int .u64 0, .int .u32 0, .int .i64 1, .int .u64 v, .int .u64 9, .string ⟨#[x]⟩, .string ⟨#[118]⟩]] w fun e w' => e = .returned (.tuple #[.agg #[.int .i64 sg, .int .i64 so], .int .i64 er]) ∧ Dk.Sep W w' (Dk.diskI d s' :: PLog g d t' ls' 1 gn :: items) :=
  app_fix h 1 v 9 (bC x) (bC 118) hP hc hA he 0 0 hv ⟨by decide, by decide⟩ (by show 1 ≤ 1000; decide) (by show 1 ≤ 1000; decide)
end
end Go.Proofs.YtdpmjlbkojhooaaGreat.Lg
