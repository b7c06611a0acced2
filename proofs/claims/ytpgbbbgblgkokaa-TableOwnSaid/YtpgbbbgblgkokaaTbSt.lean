/- Loads and stores of a table in drawn regions, at the operation; the results of do. -/
import Derived.Test.YtpgbbbgblgkokaaTbF
namespace Go.Proofs.Ytpgbbbgblgkokaa
open Go.RowKit Go.Lib
set_option linter.unusedVariables false

section
variable {ops : Array Oper} {o : Oper} {a : Act} {w : World} {K : Act → World → Prop} {Q' : Exit → Act → World → Prop} {E : Prop}
theorem step_load_t (hgd : o.guard = none) (x : Operand) (ho : o.op = .load 28 x) (b : Nat) (hx : a.eval x = .pointer (some ⟨b, 0, none⟩)) {sg st : Int} {A : Option Addr} {m p : Nat} {B : Option Addr} {k q : Nat} {C : Option Addr} {n r : Nat} {t : TypeId} (hg : Blk w b t (csT sg st A m p B k q C n r)) (h : K (a.put o.dst (.agg #[.int .i64 sg, .int .i64 st, .slice A m p, .slice B k q, .slice C n r])) w) :
    if Region.wanted o (yielded ops a.tmps) = true then Oper.wp Try.prog o a w K Q' else E := by
  rw [if_pos (by simp [Region.wanted, hgd])]
  exact wp_load_row _ x ho b hx _ (csT sg st A m p B k q C n r) (0, 0) _ hg Try.underlying28 rfl info_t h
theorem step_store_t (hgd : o.guard = none) (x y : Operand) (ho : o.op = .store 28 x y) (b : Nat) (hx : a.eval x = .pointer (some ⟨b, 0, none⟩)) {sg st : Int} {A : Option Addr} {m p : Nat} {B : Option Addr} {k q : Nat} {C : Option Addr} {n r : Nat} (hy : a.eval y = .agg #[.int .i64 sg, .int .i64 st, .slice A m p, .slice B k q, .slice C n r]) {sg0 st0 : Int} {A0 : Option Addr} {m0 p0 : Nat} {B0 : Option Addr} {k0 q0 : Nat} {C0 : Option Addr} {n0 r0 : Nat} {t : TypeId} (hg : Blk w b t (csT sg0 st0 A0 m0 p0 B0 k0 q0 C0 n0 r0)) (h : K (a.put o.dst undef) (w.setRow b (csT sg st A m p B k q C n r))) :
    if Region.wanted o (yielded ops a.tmps) = true then Oper.wp Try.prog o a w K Q' else E := by
  rw [if_pos (by simp [Region.wanted, hgd])]
  exact wp_store_row _ x y ho b (csT sg st A m p B k q C n r) hx hy _ _ hg info_t rfl (csT_one sg st A m p B k q C n r) h
theorem step_load_r (hgd : o.guard = none) (x : Operand) (ho : o.op = .load 32 x) (b : Nat) (hx : a.eval x = .pointer (some ⟨b, 0, none⟩)) {sg st : Int} {A : Option Addr} {m p : Nat} {B : Option Addr} {k q : Nat} {C : Option Addr} {n r : Nat} {t : TypeId} (hg : Blk w b t (csT sg st A m p B k q C n r)) (h : K (a.put o.dst (.agg #[.int .i64 sg, .int .i64 st, .slice A m p, .slice B k q, .slice C n r])) w) :
    if Region.wanted o (yielded ops a.tmps) = true then Oper.wp Try.prog o a w K Q' else E := by
  rw [if_pos (by simp [Region.wanted, hgd])]
  exact wp_load_row _ x ho b hx _ (csT sg st A m p B k q C n r) (0, 0) _ hg Try.underlying32 rfl info_r h
theorem step_store_r (hgd : o.guard = none) (x y : Operand) (ho : o.op = .store 32 x y) (b : Nat) (hx : a.eval x = .pointer (some ⟨b, 0, none⟩)) {sg st : Int} {A : Option Addr} {m p : Nat} {B : Option Addr} {k q : Nat} {C : Option Addr} {n r : Nat} (hy : a.eval y = .agg #[.int .i64 sg, .int .i64 st, .slice A m p, .slice B k q, .slice C n r]) {sg0 st0 : Int} {A0 : Option Addr} {m0 p0 : Nat} {B0 : Option Addr} {k0 q0 : Nat} {C0 : Option Addr} {n0 r0 : Nat} {t : TypeId} (hg : Blk w b t (csT sg0 st0 A0 m0 p0 B0 k0 q0 C0 n0 r0)) (h : K (a.put o.dst undef) (w.setRow b (csT sg st A m p B k q C n r))) :
    if Region.wanted o (yielded ops a.tmps) = true then Oper.wp Try.prog o a w K Q' else E := by
  rw [if_pos (by simp [Region.wanted, hgd])]
  exact wp_store_row _ x y ho b (csT sg st A m p B k q C n r) hx hy _ _ hg info_r rfl (csT_one sg st A m p B k q C n r) h
end
theorem res_do {fn : Func} {p' q' r' : Tmp} (h : fn.results = #[.cell p' 28, .cell q' 32, .tmp r']) (tmps : Array Value) (W : World) (b c : Nat) {sg st : Int} {A : Option Addr} {m p : Nat} {B : Option Addr} {k q : Nat} {C : Option Addr} {n r : Nat} {A1 : Option Addr} {m1 p1 : Nat} {B1 : Option Addr} {k1 q1 : Nat} {C1 : Option Addr} {n1 r1 : Nat} {t t' : TypeId} {y : Value} (hp : tmps.getD p' undef = .pointer (some ⟨b, 0, none⟩)) (hq : tmps.getD q' undef = .pointer (some ⟨c, 0, none⟩)) (hr : tmps.getD r' undef = y) (L : Blk W b t (csT sg st A m p B k q C n r)) (L' : Blk W c t' (csT sg st A1 m1 p1 B1 k1 q1 C1 n1 r1)) :
    (results fn tmps).run Try.prog W = .ok (.tuple #[.agg #[.int .i64 sg, .int .i64 st, .slice A m p, .slice B k q, .slice C n r], .agg #[.int .i64 sg, .int .i64 st, .slice A1 m1 p1, .slice B1 k1 q1, .slice C1 n1 r1], y]) W := by
  have hp' : tmps[p']?.getD undef = .pointer (some ⟨b, 0, none⟩) := by simpa using hp
  have hq' : tmps[q']?.getD undef = .pointer (some ⟨c, 0, none⟩) := by simpa using hq
  have hr' : tmps[r']?.getD undef = y := by simpa using hr
  have h1 : (loadVar 28 ⟨b, 0, none⟩).run Try.prog W = .ok (.agg #[.int .i64 sg, .int .i64 st, .slice A m p, .slice B k q, .slice C n r]) W := run_loadVar_row W b t 28 (csT sg st A m p B k q C n r) (0, 0) _ L Try.underlying28 rfl info_t
  have h2 : (loadVar 32 ⟨c, 0, none⟩).run Try.prog W = .ok (.agg #[.int .i64 sg, .int .i64 st, .slice A1 m1 p1, .slice B1 k1 q1, .slice C1 n1 r1]) W := run_loadVar_row W c t' 32 (csT sg st A1 m1 p1 B1 k1 q1 C1 n1 r1) (0, 0) _ L' Try.underlying32 rfl info_r
  simp [results, h, hp', hq', hr', asAddr, h1, h2]
end Go.Proofs.Ytpgbbbgblgkokaa
