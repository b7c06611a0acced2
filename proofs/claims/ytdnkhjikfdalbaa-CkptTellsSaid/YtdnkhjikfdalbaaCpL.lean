/- That the text's own order may stand for all orders of fixed's last region (100 operations), five operations at a time. -/
import Derived.Test.YtdnkhjikfdalbaaLex
import Derived.Test.YtdnkhjikfdalbaaRows
namespace Go.Proofs.Ytdnkhjikfdalbaa
open Go.RowKit

noncomputable def ops13 : Array Oper := ((Try.f20.body.bind (Lex.find 13)).getD #[])
def lst : Nat → Array Bool
  | 0 => Array.replicate 100 false
  | i + 1 => Lex.fill 5 (5 * i) (lst i)
theorem size13 : ops13.size = 100 := by kernel_rfl
theorem sel13 : Region.noSelect ops13 = true := by kernel_rfl
theorem end13 : Region.lexFrom .any ops13 0 100 (lst 20) = true := by kernel_rfl
theorem lexp0 : Lex.part .any ops13 5 (5 * 0) (lst 0) = true := by kernel_rfl
theorem lexp1 : Lex.part .any ops13 5 (5 * 1) (lst 1) = true := by kernel_rfl
theorem lexp2 : Lex.part .any ops13 5 (5 * 2) (lst 2) = true := by kernel_rfl
theorem lexp3 : Lex.part .any ops13 5 (5 * 3) (lst 3) = true := by kernel_rfl
theorem lexp4 : Lex.part .any ops13 5 (5 * 4) (lst 4) = true := by kernel_rfl
theorem lexp5 : Lex.part .any ops13 5 (5 * 5) (lst 5) = true := by kernel_rfl
theorem lexp6 : Lex.part .any ops13 5 (5 * 6) (lst 6) = true := by kernel_rfl
theorem lexp7 : Lex.part .any ops13 5 (5 * 7) (lst 7) = true := by kernel_rfl
theorem lexp8 : Lex.part .any ops13 5 (5 * 8) (lst 8) = true := by kernel_rfl
theorem lexp9 : Lex.part .any ops13 5 (5 * 9) (lst 9) = true := by kernel_rfl
theorem lexp10 : Lex.part .any ops13 5 (5 * 10) (lst 10) = true := by kernel_rfl
theorem lexp11 : Lex.part .any ops13 5 (5 * 11) (lst 11) = true := by kernel_rfl
theorem lexp12 : Lex.part .any ops13 5 (5 * 12) (lst 12) = true := by kernel_rfl
theorem lexp13 : Lex.part .any ops13 5 (5 * 13) (lst 13) = true := by kernel_rfl
theorem lexp14 : Lex.part .any ops13 5 (5 * 14) (lst 14) = true := by kernel_rfl
theorem lexp15 : Lex.part .any ops13 5 (5 * 15) (lst 15) = true := by kernel_rfl
theorem lexp16 : Lex.part .any ops13 5 (5 * 16) (lst 16) = true := by kernel_rfl
theorem lexp17 : Lex.part .any ops13 5 (5 * 17) (lst 17) = true := by kernel_rfl
theorem lexp18 : Lex.part .any ops13 5 (5 * 18) (lst 18) = true := by kernel_rfl
theorem lexp19 : Lex.part .any ops13 5 (5 * 19) (lst 19) = true := by kernel_rfl
theorem lexq20 : Region.lexFrom .any ops13 0 (5 * 20) (lst 20) = true := end13
theorem lexq19 : Region.lexFrom .any ops13 5 (5 * 19) (lst 19) = true := Lex.chain 5 0 (5 * 19) (lst 19) lexp19 lexq20
theorem lexq18 : Region.lexFrom .any ops13 10 (5 * 18) (lst 18) = true := Lex.chain 5 5 (5 * 18) (lst 18) lexp18 lexq19
theorem lexq17 : Region.lexFrom .any ops13 15 (5 * 17) (lst 17) = true := Lex.chain 5 10 (5 * 17) (lst 17) lexp17 lexq18
theorem lexq16 : Region.lexFrom .any ops13 20 (5 * 16) (lst 16) = true := Lex.chain 5 15 (5 * 16) (lst 16) lexp16 lexq17
theorem lexq15 : Region.lexFrom .any ops13 25 (5 * 15) (lst 15) = true := Lex.chain 5 20 (5 * 15) (lst 15) lexp15 lexq16
theorem lexq14 : Region.lexFrom .any ops13 30 (5 * 14) (lst 14) = true := Lex.chain 5 25 (5 * 14) (lst 14) lexp14 lexq15
theorem lexq13 : Region.lexFrom .any ops13 35 (5 * 13) (lst 13) = true := Lex.chain 5 30 (5 * 13) (lst 13) lexp13 lexq14
theorem lexq12 : Region.lexFrom .any ops13 40 (5 * 12) (lst 12) = true := Lex.chain 5 35 (5 * 12) (lst 12) lexp12 lexq13
theorem lexq11 : Region.lexFrom .any ops13 45 (5 * 11) (lst 11) = true := Lex.chain 5 40 (5 * 11) (lst 11) lexp11 lexq12
theorem lexq10 : Region.lexFrom .any ops13 50 (5 * 10) (lst 10) = true := Lex.chain 5 45 (5 * 10) (lst 10) lexp10 lexq11
theorem lexq9 : Region.lexFrom .any ops13 55 (5 * 9) (lst 9) = true := Lex.chain 5 50 (5 * 9) (lst 9) lexp9 lexq10
theorem lexq8 : Region.lexFrom .any ops13 60 (5 * 8) (lst 8) = true := Lex.chain 5 55 (5 * 8) (lst 8) lexp8 lexq9
theorem lexq7 : Region.lexFrom .any ops13 65 (5 * 7) (lst 7) = true := Lex.chain 5 60 (5 * 7) (lst 7) lexp7 lexq8
theorem lexq6 : Region.lexFrom .any ops13 70 (5 * 6) (lst 6) = true := Lex.chain 5 65 (5 * 6) (lst 6) lexp6 lexq7
theorem lexq5 : Region.lexFrom .any ops13 75 (5 * 5) (lst 5) = true := Lex.chain 5 70 (5 * 5) (lst 5) lexp5 lexq6
theorem lexq4 : Region.lexFrom .any ops13 80 (5 * 4) (lst 4) = true := Lex.chain 5 75 (5 * 4) (lst 4) lexp4 lexq5
theorem lexq3 : Region.lexFrom .any ops13 85 (5 * 3) (lst 3) = true := Lex.chain 5 80 (5 * 3) (lst 3) lexp3 lexq4
theorem lexq2 : Region.lexFrom .any ops13 90 (5 * 2) (lst 2) = true := Lex.chain 5 85 (5 * 2) (lst 2) lexp2 lexq3
theorem lexq1 : Region.lexFrom .any ops13 95 (5 * 1) (lst 1) = true := Lex.chain 5 90 (5 * 1) (lst 1) lexp1 lexq2
theorem lexq0 : Region.lexFrom .any ops13 100 (5 * 0) (lst 0) = true := Lex.chain 5 95 (5 * 0) (lst 0) lexp0 lexq1
theorem lex13 : Region.lexB .any ops13 = true := by
  unfold Region.lexB
  rw [size13, sel13, Bool.true_and]
  exact lexq0

end Go.Proofs.Ytdnkhjikfdalbaa
