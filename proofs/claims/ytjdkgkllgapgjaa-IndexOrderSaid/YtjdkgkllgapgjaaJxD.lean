/- The statements' own Ref and Cut of one record. -/
import Derived.Test.YtjdkgkllgapgjaaJxR
import Derived.Lib.MinMax
import Derived.Deep.WholeRow
namespace Go.Proofs.Ytjdkgkllgapgjaa.Re
open Go.RowKit Go.Lib
open Sp
set_option linter.unusedVariables false
set_option maxRecDepth 100000

theorem info_p7 : (Try.prog.info? 44).map (·.size) = some 7 := by kernel_rfl
theorem res_p7 {fn : Func} {p' : Tmp} (h : fn.results = #[.cell p' 44]) (tmps : Array Value) (W : World) (b : Nat) {cs : Array Value} {t : TypeId} (hp : tmps.getD p' undef = .pointer (some ⟨b, 0, none⟩)) (L : Sp.Blk W b t cs) (hs : cs.size = 7) : (results fn tmps).run Try.prog W = .ok (.agg cs) W := by
  have hp' : tmps[p']?.getD undef = .pointer (some ⟨b, 0, none⟩) := by simpa using hp
  have h1 : (loadVar 44 ⟨b, 0, none⟩).run Try.prog W = .ok (.agg cs) W := run_loadVar_row W b t 44 cs (0, 0) _ L Try.underlying44 rfl (by rw [hs]; exact info_p7)
  simp [results, h, hp', asAddr, h1]
theorem below1 (w : World) (o : Obj) : Below w.heap.size w (w.alloc o) := (Below.refl _ _).alloc (Nat.le_refl _) _
/-- The first bytes of a text, at most 80. -/
def cut80 (s : ByteArray) : ByteArray := s.extract 0 (min (s.size : Int) 80).toNat
def cutR (r : Rec) : Rec := ⟨r.l, r.e, r.k, r.v, r.d, cut80 r.i, cut80 r.a⟩
set_option maxHeartbeats 4000000 in
theorem lawcut_any (l e k v d : Int) (i a : ByteArray) (w : World) (hi : i.size ≤ maxLen) (ha : a.size ≤ maxLen) :
    Calls Try.prog 15 #[.agg #[.int .u64 l, .int .u32 e, .int .i64 k, .int .u64 v, .int .u64 d, .string i, .string a]] w fun e' w' => e' = .returned (.agg #[.int .u64 l, .int .u32 e, .int .i64 k, .int .u64 v, .int .u64 d, .string (cut80 i), .string (cut80 a)]) ∧ Below w.heap.size w w' := by
  unfold maxLen at hi ha
  have E1 := Lib.hid (show i.extract 0 (min (i.size : Int) 80).toNat = cut80 i from rfl)
  have E2 := Lib.hid (show a.extract 0 (min (a.size : Int) 80).toNat = cut80 a from rfl)
  generalize cut80 i = i2 at *
  generalize cut80 a = a2 at *
  have L : Sp.Blk ((w.alloc (.cells #[.int .u64 l, .int .u32 e, .int .i64 k, .int .u64 v, .int .u64 d, .string i2, .string a2] 44)).alloc (.cells #[.int .u64 l, .int .u32 e, .int .i64 k, .int .u64 v, .int .u64 d, .string i2, .string a2] 44)) (w.heap.size + 1) 44 #[.int .u64 l, .int .u32 e, .int .i64 k, .int .u64 v, .int .u64 d, .string i2, .string a2] := Sp.Blk.at_ _ _ _ (by simp)
  go_enter Try.func15, Try.ntmps15
  go_wp2_with fail
  rw [E1.out, E2.out]
  exact bodyPost_ret (res_p7 rfl _ _ (w.heap.size + 1) rfl L rfl) rfl ⟨rfl, ((Below.refl _ _).alloc (Nat.le_refl _) _).alloc (by simp) _⟩
end Go.Proofs.Ytjdkgkllgapgjaa.Re
