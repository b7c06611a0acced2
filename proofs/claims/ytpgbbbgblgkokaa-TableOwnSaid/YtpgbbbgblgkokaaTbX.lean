/- The statements' fixed calls of table: they answer what the document fixes; no memory that was there is changed. -/
import Derived.Test.YtpgbbbgblgkokaaTbN
import Derived.Test.YtpgbbbgblgkokaaTbQ
namespace Go.Proofs.Ytpgbbbgblgkokaa
open Go.RowKit Go.Lib
set_option linter.unusedVariables false

/-- What a call of table's tells, field by field. -/
def ResV (sg st : Int) (o l f : List Int) (y : Int) (w : World) (en : Ending) (w' : World) : Prop :=
  ∃ A m p B k q C n r, en = .returned (.tuple #[.agg #[.int .i64 sg, .int .i64 st, .slice A m p, .slice B k q, .slice C n r], .int .i64 y]) ∧ TIn w' A m B k C n o l f ∧ m ≤ p ∧ (Fresh w' w.heap.size A m ∧ Fresh w' w.heap.size B k ∧ Fresh w' w.heap.size C n) ∧ Below w.heap.size w w'
theorem resv {P : Program} {f : FuncId} {args : Array Value} {w : World} {t : Tab} {y y' sg st : Int} {o l f' : List Int} (h : Calls P f args w (ResP t y w)) (ht : t = ⟨sg, st, o, l, f'⟩) (hy : y = y') : Calls P f args w (ResV sg st o l f' y' w) := by
  subst ht hy; exact h
theorem sl_two {κ : IntKind} {W : World} {b : Nat} {t : TypeId} {x y : Int} (h : Blk W b t #[.int κ x, .int κ y]) : Sl κ W (some ⟨b, 0, none⟩) 2 [x, y] := by
  refine ⟨rfl, fun _ => ⟨b, 0, rfl, h.lt, fun j hj => ?_⟩⟩
  rcases (by omega : j = 0 ∨ j = 1) with rfl | rfl
  · exact h.cell 0
  · exact h.cell 1
theorem size_le {κ : IntKind} {W : World} {A : Option Addr} {m : Nat} {l : List Int} (h : Sl κ W A m l) (hl : l.length ≤ 30) : m ≤ maxLen := by
  unfold maxLen; have := h.len; omega

set_option maxRecDepth 100000 in
set_option maxHeartbeats 16000000 in
theorem fixed_any (w : World) : Calls Try.prog 25 #[] w fun e w' => e = .returned (.bool true) ∧ Below w.heap.size w w' := by
  have BB := Below.refl w.heap.size w
  have hv := Try.zeroValue28
  go_enter Try.func25, Try.ntmps25
  go_wp2_with fail
  refine (resv (sg := 4) (st := 2) (o := [0]) (l := [0]) (f' := [1]) (y' := 0) (new_any 4 2 1 _) (by decide) (by decide)).mono ?_
  rintro e' wa ⟨Aa, ma, pa, Ba, ka, qa, Ca, na, ra, rfl, ta, mpa, fra, hb⟩
  clear fra
  replace BB := Ge.trans BB hb
  clear hb
  have Na : Blk (wa.alloc (.cells #[.int .i64 0, .int .i64 0, .slice none 0 0, .slice none 0 0, .slice none 0 0] 28)) wa.heap.size 28 (csT 0 0 none 0 0 none 0 0 none 0 0) := Blk.new wa _ _
  go_upto_region 2 with (with_reducible refine store_t rfl (.tmp 1) (.tmp 19) rfl wa.heap.size rfl rfl Na ?_)
  have hb3 : Below wa.heap.size wa ((wa.alloc (.cells #[.int .i64 0, .int .i64 0, .slice none 0 0, .slice none 0 0, .slice none 0 0] 28)).setRow wa.heap.size (csT 4 2 Aa ma pa Ba ka qa Ca na ra)) := below_row (below1 _ _) (Nat.le_refl _) _
  have Ka : Blk ((wa.alloc (.cells #[.int .i64 0, .int .i64 0, .slice none 0 0, .slice none 0 0, .slice none 0 0] 28)).setRow wa.heap.size (csT 4 2 Aa ma pa Ba ka qa Ca na ra)) wa.heap.size 28 (csT 4 2 Aa ma pa Ba ka qa Ca na ra) := Na.row _
  replace ta := ta.later hb3
  replace BB := Ge.trans BB hb3
  clear hb3 Na
  generalize (wa.alloc (.cells #[.int .i64 0, .int .i64 0, .slice none 0 0, .slice none 0 0, .slice none 0 0] 28)).setRow wa.heap.size (csT 4 2 Aa ma pa Ba ka qa Ca na ra) = ya at *
  generalize wa.heap.size = ba at *
  go_wp2_with (first | (with_reducible refine load_t rfl (.tmp 1) rfl ba rfl Ka ?_))
  refine (resv (sg := 0) (st := 0) (o := []) (l := []) (f' := []) (y' := 1) (new_any 3 2 1 _) (by decide) (by decide)).mono ?_
  rintro e' wu ⟨Au, mu, pu, Bu, ku, qu, Cu, nu, ru, rfl, tu, mpu, fru, hb⟩
  clear fru
  replace ta := ta.later hb
  replace Ka := Ka.later hb
  replace BB := Ge.trans BB hb
  clear hb
  have Nu : Blk (wu.alloc (.cells #[.int .i64 0, .int .i64 0, .slice none 0 0, .slice none 0 0, .slice none 0 0] 28)) wu.heap.size 28 (csT 0 0 none 0 0 none 0 0 none 0 0) := Blk.new wu _ _
  go_upto_region 3 with (with_reducible refine store_t rfl (.tmp 3) (.tmp 23) rfl wu.heap.size rfl rfl Nu ?_)
  have hb3 : Below wu.heap.size wu ((wu.alloc (.cells #[.int .i64 0, .int .i64 0, .slice none 0 0, .slice none 0 0, .slice none 0 0] 28)).setRow wu.heap.size (csT 0 0 Au mu pu Bu ku qu Cu nu ru)) := below_row (below1 _ _) (Nat.le_refl _) _
  have Ku : Blk ((wu.alloc (.cells #[.int .i64 0, .int .i64 0, .slice none 0 0, .slice none 0 0, .slice none 0 0] 28)).setRow wu.heap.size (csT 0 0 Au mu pu Bu ku qu Cu nu ru)) wu.heap.size 28 (csT 0 0 Au mu pu Bu ku qu Cu nu ru) := Nu.row _
  replace ta := ta.later hb3
  replace Ka := Ka.later hb3
  replace tu := tu.later hb3
  replace BB := Ge.trans BB hb3
  clear hb3 Nu
  generalize (wu.alloc (.cells #[.int .i64 0, .int .i64 0, .slice none 0 0, .slice none 0 0, .slice none 0 0] 28)).setRow wu.heap.size (csT 0 0 Au mu pu Bu ku qu Cu nu ru) = yu at *
  generalize wu.heap.size = bu at *
  have e0a : yu.cell? ⟨ba, 0, none⟩ = some (.int .i64 4) := Ka.cell 0
  have e1a : yu.cell? ⟨ba, 1, none⟩ = some (.int .i64 2) := Ka.cell 1
  have e2a : yu.cell? ⟨ba, 2, none⟩ = some (.slice Aa ma pa) := Ka.cell 2
  have e3a : yu.cell? ⟨ba, 3, none⟩ = some (.slice Ba ka qa) := Ka.cell 3
  have e4a : yu.cell? ⟨ba, 4, none⟩ = some (.slice Ca na ra) := Ka.cell 4
  go_wp2_with (first | (with_reducible refine load_t rfl (.tmp 1) rfl ba rfl Ka ?_) | (with_reducible refine load_t rfl (.tmp 3) rfl bu rfl Ku ?_))
  clear e0a e1a e2a e3a e4a
  refine (right_is 4 2 Aa ma pa Ba ka qa Ca na ra [0] [0] [1] true _ ta (size_le ta.a (by decide)) (size_le ta.b (by decide)) (size_le ta.c (by decide)) mpa (by decide)).mono ?_
  rintro e' x1 ⟨rfl, hb⟩
  replace ta := ta.later hb
  replace Ka := Ka.later hb
  replace tu := tu.later hb
  replace Ku := Ku.later hb
  replace BB := Ge.trans BB hb
  clear hb
  go_wp2_with (first | (with_reducible refine load_t rfl (.tmp 1) rfl ba rfl Ka ?_) | (with_reducible refine load_t rfl (.tmp 3) rfl bu rfl Ku ?_))
  refine (resv (sg := 4) (st := 2) (o := [0]) (l := [1]) (f' := [1]) (y' := 0) (count_any 4 2 Aa ma pa Ba ka qa Ca na ra [0] [0] [1] _ ta ((okT_iff _).1 (by decide))) (by decide) (by decide)).mono ?_
  rintro e' wb ⟨Ab, mb, pb, Bb, kb, qb, Cb, nb, rb, rfl, tb, mpb, frb, hb⟩
  clear frb
  replace ta := ta.later hb
  replace Ka := Ka.later hb
  replace tu := tu.later hb
  replace Ku := Ku.later hb
  replace BB := Ge.trans BB hb
  clear hb
  have Nb : Blk (wb.alloc (.cells #[.int .i64 0, .int .i64 0, .slice none 0 0, .slice none 0 0, .slice none 0 0] 28)) wb.heap.size 28 (csT 0 0 none 0 0 none 0 0 none 0 0) := Blk.new wb _ _
  go_upto_region 6 with (with_reducible refine store_t rfl (.tmp 5) (.tmp 35) rfl wb.heap.size rfl rfl Nb ?_)
  have hb3 : Below wb.heap.size wb ((wb.alloc (.cells #[.int .i64 0, .int .i64 0, .slice none 0 0, .slice none 0 0, .slice none 0 0] 28)).setRow wb.heap.size (csT 4 2 Ab mb pb Bb kb qb Cb nb rb)) := below_row (below1 _ _) (Nat.le_refl _) _
  have Kb : Blk ((wb.alloc (.cells #[.int .i64 0, .int .i64 0, .slice none 0 0, .slice none 0 0, .slice none 0 0] 28)).setRow wb.heap.size (csT 4 2 Ab mb pb Bb kb qb Cb nb rb)) wb.heap.size 28 (csT 4 2 Ab mb pb Bb kb qb Cb nb rb) := Nb.row _
  replace ta := ta.later hb3
  replace Ka := Ka.later hb3
  replace tu := tu.later hb3
  replace Ku := Ku.later hb3
  replace tb := tb.later hb3
  replace BB := Ge.trans BB hb3
  clear hb3 Nb
  generalize (wb.alloc (.cells #[.int .i64 0, .int .i64 0, .slice none 0 0, .slice none 0 0, .slice none 0 0] 28)).setRow wb.heap.size (csT 4 2 Ab mb pb Bb kb qb Cb nb rb) = yb at *
  generalize wb.heap.size = bb at *
  go_wp2_with (first | (with_reducible refine load_t rfl (.tmp 1) rfl ba rfl Ka ?_) | (with_reducible refine load_t rfl (.tmp 3) rfl bu rfl Ku ?_) | (with_reducible refine load_t rfl (.tmp 5) rfl bb rfl Kb ?_))
  refine (resv (sg := 4) (st := 2) (o := [0, 1]) (l := [1, 0]) (f' := [1, 3]) (y' := 0) (roll_any 4 2 Ab mb pb Bb kb qb Cb nb rb [0] [1] [1] 3 _ tb ((okT_iff _).1 (by decide))) (by decide) (by decide)).mono ?_
  rintro e' wc ⟨Ac, mc, pc, Bc, kc, qc, Cc, nc, rc, rfl, tc, mpc, frc, hb⟩
  clear frc
  replace ta := ta.later hb
  replace Ka := Ka.later hb
  replace tu := tu.later hb
  replace Ku := Ku.later hb
  replace tb := tb.later hb
  replace Kb := Kb.later hb
  replace BB := Ge.trans BB hb
  clear hb
  have Nc : Blk (wc.alloc (.cells #[.int .i64 0, .int .i64 0, .slice none 0 0, .slice none 0 0, .slice none 0 0] 28)) wc.heap.size 28 (csT 0 0 none 0 0 none 0 0 none 0 0) := Blk.new wc _ _
  go_upto_region 7 with (with_reducible refine store_t rfl (.tmp 7) (.tmp 40) rfl wc.heap.size rfl rfl Nc ?_)
  have hb3 : Below wc.heap.size wc ((wc.alloc (.cells #[.int .i64 0, .int .i64 0, .slice none 0 0, .slice none 0 0, .slice none 0 0] 28)).setRow wc.heap.size (csT 4 2 Ac mc pc Bc kc qc Cc nc rc)) := below_row (below1 _ _) (Nat.le_refl _) _
  have Kc : Blk ((wc.alloc (.cells #[.int .i64 0, .int .i64 0, .slice none 0 0, .slice none 0 0, .slice none 0 0] 28)).setRow wc.heap.size (csT 4 2 Ac mc pc Bc kc qc Cc nc rc)) wc.heap.size 28 (csT 4 2 Ac mc pc Bc kc qc Cc nc rc) := Nc.row _
  replace ta := ta.later hb3
  replace Ka := Ka.later hb3
  replace tu := tu.later hb3
  replace Ku := Ku.later hb3
  replace tb := tb.later hb3
  replace Kb := Kb.later hb3
  replace tc := tc.later hb3
  replace BB := Ge.trans BB hb3
  clear hb3 Nc
  generalize (wc.alloc (.cells #[.int .i64 0, .int .i64 0, .slice none 0 0, .slice none 0 0, .slice none 0 0] 28)).setRow wc.heap.size (csT 4 2 Ac mc pc Bc kc qc Cc nc rc) = yc at *
  generalize wc.heap.size = bc at *
  have e0b : yc.cell? ⟨bb, 0, none⟩ = some (.int .i64 4) := Kb.cell 0
  have e1b : yc.cell? ⟨bb, 1, none⟩ = some (.int .i64 2) := Kb.cell 1
  have e2b : yc.cell? ⟨bb, 2, none⟩ = some (.slice Ab mb pb) := Kb.cell 2
  have e3b : yc.cell? ⟨bb, 3, none⟩ = some (.slice Bb kb qb) := Kb.cell 3
  have e4b : yc.cell? ⟨bb, 4, none⟩ = some (.slice Cb nb rb) := Kb.cell 4
  go_wp2_with (first | (with_reducible refine load_t rfl (.tmp 1) rfl ba rfl Ka ?_) | (with_reducible refine load_t rfl (.tmp 3) rfl bu rfl Ku ?_) | (with_reducible refine load_t rfl (.tmp 5) rfl bb rfl Kb ?_) | (with_reducible refine load_t rfl (.tmp 7) rfl bc rfl Kc ?_))
  clear e0b e1b e2b e3b e4b
  refine (right_is 4 2 Ab mb pb Bb kb qb Cb nb rb [0] [1] [1] true _ tb (size_le tb.a (by decide)) (size_le tb.b (by decide)) (size_le tb.c (by decide)) mpb (by decide)).mono ?_
  rintro e' x2 ⟨rfl, hb⟩
  replace ta := ta.later hb
  replace Ka := Ka.later hb
  replace tu := tu.later hb
  replace Ku := Ku.later hb
  replace tb := tb.later hb
  replace Kb := Kb.later hb
  replace tc := tc.later hb
  replace Kc := Kc.later hb
  replace BB := Ge.trans BB hb
  clear hb
  have e0c : x2.cell? ⟨bc, 0, none⟩ = some (.int .i64 4) := Kc.cell 0
  have e1c : x2.cell? ⟨bc, 1, none⟩ = some (.int .i64 2) := Kc.cell 1
  have e2c : x2.cell? ⟨bc, 2, none⟩ = some (.slice Ac mc pc) := Kc.cell 2
  have e3c : x2.cell? ⟨bc, 3, none⟩ = some (.slice Bc kc qc) := Kc.cell 3
  have e4c : x2.cell? ⟨bc, 4, none⟩ = some (.slice Cc nc rc) := Kc.cell 4
  go_wp2_with (first | (with_reducible refine load_t rfl (.tmp 1) rfl ba rfl Ka ?_) | (with_reducible refine load_t rfl (.tmp 3) rfl bu rfl Ku ?_) | (with_reducible refine load_t rfl (.tmp 5) rfl bb rfl Kb ?_) | (with_reducible refine load_t rfl (.tmp 7) rfl bc rfl Kc ?_))
  clear e0c e1c e2c e3c e4c
  refine (right_is 4 2 Ac mc pc Bc kc qc Cc nc rc [0, 1] [1, 0] [1, 3] true _ tc (size_le tc.a (by decide)) (size_le tc.b (by decide)) (size_le tc.c (by decide)) mpc (by decide)).mono ?_
  rintro e' x3 ⟨rfl, hb⟩
  replace ta := ta.later hb
  replace Ka := Ka.later hb
  replace tu := tu.later hb
  replace Ku := Ku.later hb
  replace tb := tb.later hb
  replace Kb := Kb.later hb
  replace tc := tc.later hb
  replace Kc := Kc.later hb
  replace BB := Ge.trans BB hb
  clear hb
  go_wp2_with (first | (with_reducible refine load_t rfl (.tmp 1) rfl ba rfl Ka ?_) | (with_reducible refine load_t rfl (.tmp 3) rfl bu rfl Ku ?_) | (with_reducible refine load_t rfl (.tmp 5) rfl bb rfl Kb ?_) | (with_reducible refine load_t rfl (.tmp 7) rfl bc rfl Kc ?_))
  refine (resv (sg := 4) (st := 2) (o := [1]) (l := [0]) (f' := [3]) (y' := 0) (drop_any 4 2 Ac mc pc Bc kc qc Cc nc rc [0, 1] [1, 0] [1, 3] 0 _ tc ((okT_iff _).1 (by decide))) (by decide) (by decide)).mono ?_
  rintro e' wd ⟨Ad, md, pd, Bd, kd, qd, Cd, nd, rd, rfl, td, mpd, frd, hb⟩
  clear frd
  replace ta := ta.later hb
  replace Ka := Ka.later hb
  replace tu := tu.later hb
  replace Ku := Ku.later hb
  replace tb := tb.later hb
  replace Kb := Kb.later hb
  replace tc := tc.later hb
  replace Kc := Kc.later hb
  replace BB := Ge.trans BB hb
  clear hb
  have Nd : Blk (wd.alloc (.cells #[.int .i64 0, .int .i64 0, .slice none 0 0, .slice none 0 0, .slice none 0 0] 28)) wd.heap.size 28 (csT 0 0 none 0 0 none 0 0 none 0 0) := Blk.new wd _ _
  go_upto_region 10 with (with_reducible refine store_t rfl (.tmp 9) (.tmp 61) rfl wd.heap.size rfl rfl Nd ?_)
  have hb3 : Below wd.heap.size wd ((wd.alloc (.cells #[.int .i64 0, .int .i64 0, .slice none 0 0, .slice none 0 0, .slice none 0 0] 28)).setRow wd.heap.size (csT 4 2 Ad md pd Bd kd qd Cd nd rd)) := below_row (below1 _ _) (Nat.le_refl _) _
  have Kd : Blk ((wd.alloc (.cells #[.int .i64 0, .int .i64 0, .slice none 0 0, .slice none 0 0, .slice none 0 0] 28)).setRow wd.heap.size (csT 4 2 Ad md pd Bd kd qd Cd nd rd)) wd.heap.size 28 (csT 4 2 Ad md pd Bd kd qd Cd nd rd) := Nd.row _
  replace ta := ta.later hb3
  replace Ka := Ka.later hb3
  replace tu := tu.later hb3
  replace Ku := Ku.later hb3
  replace tb := tb.later hb3
  replace Kb := Kb.later hb3
  replace tc := tc.later hb3
  replace Kc := Kc.later hb3
  replace td := td.later hb3
  replace BB := Ge.trans BB hb3
  clear hb3 Nd
  generalize (wd.alloc (.cells #[.int .i64 0, .int .i64 0, .slice none 0 0, .slice none 0 0, .slice none 0 0] 28)).setRow wd.heap.size (csT 4 2 Ad md pd Bd kd qd Cd nd rd) = yd at *
  generalize wd.heap.size = bd at *
  go_wp2_with (first | (with_reducible refine load_t rfl (.tmp 1) rfl ba rfl Ka ?_) | (with_reducible refine load_t rfl (.tmp 3) rfl bu rfl Ku ?_) | (with_reducible refine load_t rfl (.tmp 5) rfl bb rfl Kb ?_) | (with_reducible refine load_t rfl (.tmp 7) rfl bc rfl Kc ?_) | (with_reducible refine load_t rfl (.tmp 9) rfl bd rfl Kd ?_))
  refine (resv (sg := 0) (st := 0) (o := []) (l := []) (f' := []) (y' := 1) (drop_any 4 2 Ac mc pc Bc kc qc Cc nc rc [0, 1] [1, 0] [1, 3] 1 _ tc ((okT_iff _).1 (by decide))) (by decide) (by decide)).mono ?_
  rintro e' wg ⟨Ag, mg, pg, Bg, kg, qg, Cg, ng, rg, rfl, tg, mpg, frg, hb⟩
  clear frg
  replace ta := ta.later hb
  replace Ka := Ka.later hb
  replace tu := tu.later hb
  replace Ku := Ku.later hb
  replace tb := tb.later hb
  replace Kb := Kb.later hb
  replace tc := tc.later hb
  replace Kc := Kc.later hb
  replace td := td.later hb
  replace Kd := Kd.later hb
  replace BB := Ge.trans BB hb
  clear hb
  have Ng : Blk (wg.alloc (.cells #[.int .i64 0, .int .i64 0, .slice none 0 0, .slice none 0 0, .slice none 0 0] 28)) wg.heap.size 28 (csT 0 0 none 0 0 none 0 0 none 0 0) := Blk.new wg _ _
  go_upto_region 11 with (with_reducible refine store_t rfl (.tmp 11) (.tmp 66) rfl wg.heap.size rfl rfl Ng ?_)
  have hb3 : Below wg.heap.size wg ((wg.alloc (.cells #[.int .i64 0, .int .i64 0, .slice none 0 0, .slice none 0 0, .slice none 0 0] 28)).setRow wg.heap.size (csT 0 0 Ag mg pg Bg kg qg Cg ng rg)) := below_row (below1 _ _) (Nat.le_refl _) _
  have Kg : Blk ((wg.alloc (.cells #[.int .i64 0, .int .i64 0, .slice none 0 0, .slice none 0 0, .slice none 0 0] 28)).setRow wg.heap.size (csT 0 0 Ag mg pg Bg kg qg Cg ng rg)) wg.heap.size 28 (csT 0 0 Ag mg pg Bg kg qg Cg ng rg) := Ng.row _
  replace ta := ta.later hb3
  replace Ka := Ka.later hb3
  replace tu := tu.later hb3
  replace Ku := Ku.later hb3
  replace tb := tb.later hb3
  replace Kb := Kb.later hb3
  replace tc := tc.later hb3
  replace Kc := Kc.later hb3
  replace td := td.later hb3
  replace Kd := Kd.later hb3
  replace tg := tg.later hb3
  replace BB := Ge.trans BB hb3
  clear hb3 Ng
  generalize (wg.alloc (.cells #[.int .i64 0, .int .i64 0, .slice none 0 0, .slice none 0 0, .slice none 0 0] 28)).setRow wg.heap.size (csT 0 0 Ag mg pg Bg kg qg Cg ng rg) = yg at *
  generalize wg.heap.size = bg at *
  go_wp2_with (first | (with_reducible refine load_t rfl (.tmp 1) rfl ba rfl Ka ?_) | (with_reducible refine load_t rfl (.tmp 3) rfl bu rfl Ku ?_) | (with_reducible refine load_t rfl (.tmp 5) rfl bb rfl Kb ?_) | (with_reducible refine load_t rfl (.tmp 7) rfl bc rfl Kc ?_) | (with_reducible refine load_t rfl (.tmp 9) rfl bd rfl Kd ?_) | (with_reducible refine load_t rfl (.tmp 11) rfl bg rfl Kg ?_))
  refine (resv (sg := 0) (st := 0) (o := []) (l := []) (f' := []) (y' := 1) (drop_any 4 2 Ac mc pc Bc kc qc Cc nc rc [0, 1] [1, 0] [1, 3] 2 _ tc ((okT_iff _).1 (by decide))) (by decide) (by decide)).mono ?_
  rintro e' wh ⟨Ah, mh, ph, Bh, kh, qh, Ch, nh, rh, rfl, th, mph, frh, hb⟩
  clear frh
  replace ta := ta.later hb
  replace Ka := Ka.later hb
  replace tu := tu.later hb
  replace Ku := Ku.later hb
  replace tb := tb.later hb
  replace Kb := Kb.later hb
  replace tc := tc.later hb
  replace Kc := Kc.later hb
  replace td := td.later hb
  replace Kd := Kd.later hb
  replace tg := tg.later hb
  replace Kg := Kg.later hb
  replace BB := Ge.trans BB hb
  clear hb
  have Nh : Blk (wh.alloc (.cells #[.int .i64 0, .int .i64 0, .slice none 0 0, .slice none 0 0, .slice none 0 0] 28)) wh.heap.size 28 (csT 0 0 none 0 0 none 0 0 none 0 0) := Blk.new wh _ _
  go_upto_region 12 with (with_reducible refine store_t rfl (.tmp 13) (.tmp 71) rfl wh.heap.size rfl rfl Nh ?_)
  have hb3 : Below wh.heap.size wh ((wh.alloc (.cells #[.int .i64 0, .int .i64 0, .slice none 0 0, .slice none 0 0, .slice none 0 0] 28)).setRow wh.heap.size (csT 0 0 Ah mh ph Bh kh qh Ch nh rh)) := below_row (below1 _ _) (Nat.le_refl _) _
  have Kh : Blk ((wh.alloc (.cells #[.int .i64 0, .int .i64 0, .slice none 0 0, .slice none 0 0, .slice none 0 0] 28)).setRow wh.heap.size (csT 0 0 Ah mh ph Bh kh qh Ch nh rh)) wh.heap.size 28 (csT 0 0 Ah mh ph Bh kh qh Ch nh rh) := Nh.row _
  replace ta := ta.later hb3
  replace Ka := Ka.later hb3
  replace tu := tu.later hb3
  replace Ku := Ku.later hb3
  replace tb := tb.later hb3
  replace Kb := Kb.later hb3
  replace tc := tc.later hb3
  replace Kc := Kc.later hb3
  replace td := td.later hb3
  replace Kd := Kd.later hb3
  replace tg := tg.later hb3
  replace Kg := Kg.later hb3
  replace th := th.later hb3
  replace BB := Ge.trans BB hb3
  clear hb3 Nh
  generalize (wh.alloc (.cells #[.int .i64 0, .int .i64 0, .slice none 0 0, .slice none 0 0, .slice none 0 0] 28)).setRow wh.heap.size (csT 0 0 Ah mh ph Bh kh qh Ch nh rh) = yh at *
  generalize wh.heap.size = bh at *
  have e0d : yh.cell? ⟨bd, 0, none⟩ = some (.int .i64 4) := Kd.cell 0
  have e1d : yh.cell? ⟨bd, 1, none⟩ = some (.int .i64 2) := Kd.cell 1
  have e2d : yh.cell? ⟨bd, 2, none⟩ = some (.slice Ad md pd) := Kd.cell 2
  have e3d : yh.cell? ⟨bd, 3, none⟩ = some (.slice Bd kd qd) := Kd.cell 3
  have e4d : yh.cell? ⟨bd, 4, none⟩ = some (.slice Cd nd rd) := Kd.cell 4
  go_wp2_with (first | (with_reducible refine load_t rfl (.tmp 1) rfl ba rfl Ka ?_) | (with_reducible refine load_t rfl (.tmp 3) rfl bu rfl Ku ?_) | (with_reducible refine load_t rfl (.tmp 5) rfl bb rfl Kb ?_) | (with_reducible refine load_t rfl (.tmp 7) rfl bc rfl Kc ?_) | (with_reducible refine load_t rfl (.tmp 9) rfl bd rfl Kd ?_) | (with_reducible refine load_t rfl (.tmp 11) rfl bg rfl Kg ?_) | (with_reducible refine load_t rfl (.tmp 13) rfl bh rfl Kh ?_))
  clear e0d e1d e2d e3d e4d
  refine (right_is 4 2 Ad md pd Bd kd qd Cd nd rd [1] [0] [3] true _ td (size_le td.a (by decide)) (size_le td.b (by decide)) (size_le td.c (by decide)) mpd (by decide)).mono ?_
  rintro e' x4 ⟨rfl, hb⟩
  replace ta := ta.later hb
  replace Ka := Ka.later hb
  replace tu := tu.later hb
  replace Ku := Ku.later hb
  replace tb := tb.later hb
  replace Kb := Kb.later hb
  replace tc := tc.later hb
  replace Kc := Kc.later hb
  replace td := td.later hb
  replace Kd := Kd.later hb
  replace tg := tg.later hb
  replace Kg := Kg.later hb
  replace th := th.later hb
  replace Kh := Kh.later hb
  replace BB := Ge.trans BB hb
  clear hb
  go_wp2_with (first | (with_reducible refine load_t rfl (.tmp 1) rfl ba rfl Ka ?_) | (with_reducible refine load_t rfl (.tmp 3) rfl bu rfl Ku ?_) | (with_reducible refine load_t rfl (.tmp 5) rfl bb rfl Kb ?_) | (with_reducible refine load_t rfl (.tmp 7) rfl bc rfl Kc ?_) | (with_reducible refine load_t rfl (.tmp 9) rfl bd rfl Kd ?_) | (with_reducible refine load_t rfl (.tmp 11) rfl bg rfl Kg ?_) | (with_reducible refine load_t rfl (.tmp 13) rfl bh rfl Kh ?_))
  refine (resv (sg := 4) (st := 2) (o := [1, 0]) (l := [0, 0]) (f' := [3, 9]) (y' := 0) (roll_any 4 2 Ad md pd Bd kd qd Cd nd rd [1] [0] [3] 9 _ td ((okT_iff _).1 (by decide))) (by decide) (by decide)).mono ?_
  rintro e' wl ⟨Al, ml, pl, Bl, kl, ql, Cl, nl, rl, rfl, tl, mpl, frl, hb⟩
  clear frl
  replace ta := ta.later hb
  replace Ka := Ka.later hb
  replace tu := tu.later hb
  replace Ku := Ku.later hb
  replace tb := tb.later hb
  replace Kb := Kb.later hb
  replace tc := tc.later hb
  replace Kc := Kc.later hb
  replace td := td.later hb
  replace Kd := Kd.later hb
  replace tg := tg.later hb
  replace Kg := Kg.later hb
  replace th := th.later hb
  replace Kh := Kh.later hb
  replace BB := Ge.trans BB hb
  clear hb
  have Nl : Blk (wl.alloc (.cells #[.int .i64 0, .int .i64 0, .slice none 0 0, .slice none 0 0, .slice none 0 0] 28)) wl.heap.size 28 (csT 0 0 none 0 0 none 0 0 none 0 0) := Blk.new wl _ _
  go_upto_region 15 with (with_reducible refine store_t rfl (.tmp 15) (.tmp 83) rfl wl.heap.size rfl rfl Nl ?_)
  have hb3 : Below wl.heap.size wl ((wl.alloc (.cells #[.int .i64 0, .int .i64 0, .slice none 0 0, .slice none 0 0, .slice none 0 0] 28)).setRow wl.heap.size (csT 4 2 Al ml pl Bl kl ql Cl nl rl)) := below_row (below1 _ _) (Nat.le_refl _) _
  have Kl : Blk ((wl.alloc (.cells #[.int .i64 0, .int .i64 0, .slice none 0 0, .slice none 0 0, .slice none 0 0] 28)).setRow wl.heap.size (csT 4 2 Al ml pl Bl kl ql Cl nl rl)) wl.heap.size 28 (csT 4 2 Al ml pl Bl kl ql Cl nl rl) := Nl.row _
  replace ta := ta.later hb3
  replace Ka := Ka.later hb3
  replace tu := tu.later hb3
  replace Ku := Ku.later hb3
  replace tb := tb.later hb3
  replace Kb := Kb.later hb3
  replace tc := tc.later hb3
  replace Kc := Kc.later hb3
  replace td := td.later hb3
  replace Kd := Kd.later hb3
  replace tg := tg.later hb3
  replace Kg := Kg.later hb3
  replace th := th.later hb3
  replace Kh := Kh.later hb3
  replace tl := tl.later hb3
  replace BB := Ge.trans BB hb3
  clear hb3 Nl
  generalize (wl.alloc (.cells #[.int .i64 0, .int .i64 0, .slice none 0 0, .slice none 0 0, .slice none 0 0] 28)).setRow wl.heap.size (csT 4 2 Al ml pl Bl kl ql Cl nl rl) = yl at *
  generalize wl.heap.size = bl at *
  dsimp only [List.append]
  have e0a : yl.cell? ⟨ba, 0, none⟩ = some (.int .i64 4) := Ka.cell 0
  have e1a : yl.cell? ⟨ba, 1, none⟩ = some (.int .i64 2) := Ka.cell 1
  have e2a : yl.cell? ⟨ba, 2, none⟩ = some (.slice Aa ma pa) := Ka.cell 2
  have e3a : yl.cell? ⟨ba, 3, none⟩ = some (.slice Ba ka qa) := Ka.cell 3
  have e4a : yl.cell? ⟨ba, 4, none⟩ = some (.slice Ca na ra) := Ka.cell 4
  go_wp2_with (first | (with_reducible refine load_t rfl (.tmp 1) rfl ba rfl Ka ?_) | (with_reducible refine load_t rfl (.tmp 3) rfl bu rfl Ku ?_) | (with_reducible refine load_t rfl (.tmp 5) rfl bb rfl Kb ?_) | (with_reducible refine load_t rfl (.tmp 7) rfl bc rfl Kc ?_) | (with_reducible refine load_t rfl (.tmp 9) rfl bd rfl Kd ?_) | (with_reducible refine load_t rfl (.tmp 11) rfl bg rfl Kg ?_) | (with_reducible refine load_t rfl (.tmp 13) rfl bh rfl Kh ?_) | (with_reducible refine load_t rfl (.tmp 15) rfl bl rfl Kl ?_))
  clear e0a e1a e2a e3a e4a
  refine (room_is 4 2 Aa ma pa Ba ka qa Ca na ra [0] [0] [1] 8 _ ta ((okT_iff _).1 (by decide)) (by decide)).mono ?_
  rintro e' z1 ⟨rfl, hb⟩
  replace ta := ta.later hb
  replace Ka := Ka.later hb
  replace tu := tu.later hb
  replace Ku := Ku.later hb
  replace tb := tb.later hb
  replace Kb := Kb.later hb
  replace tc := tc.later hb
  replace Kc := Kc.later hb
  replace td := td.later hb
  replace Kd := Kd.later hb
  replace tg := tg.later hb
  replace Kg := Kg.later hb
  replace th := th.later hb
  replace Kh := Kh.later hb
  replace tl := tl.later hb
  replace Kl := Kl.later hb
  replace BB := Ge.trans BB hb
  clear hb
  have e0b : z1.cell? ⟨bb, 0, none⟩ = some (.int .i64 4) := Kb.cell 0
  have e1b : z1.cell? ⟨bb, 1, none⟩ = some (.int .i64 2) := Kb.cell 1
  have e2b : z1.cell? ⟨bb, 2, none⟩ = some (.slice Ab mb pb) := Kb.cell 2
  have e3b : z1.cell? ⟨bb, 3, none⟩ = some (.slice Bb kb qb) := Kb.cell 3
  have e4b : z1.cell? ⟨bb, 4, none⟩ = some (.slice Cb nb rb) := Kb.cell 4
  go_wp2_with (first | (with_reducible refine load_t rfl (.tmp 1) rfl ba rfl Ka ?_) | (with_reducible refine load_t rfl (.tmp 3) rfl bu rfl Ku ?_) | (with_reducible refine load_t rfl (.tmp 5) rfl bb rfl Kb ?_) | (with_reducible refine load_t rfl (.tmp 7) rfl bc rfl Kc ?_) | (with_reducible refine load_t rfl (.tmp 9) rfl bd rfl Kd ?_) | (with_reducible refine load_t rfl (.tmp 11) rfl bg rfl Kg ?_) | (with_reducible refine load_t rfl (.tmp 13) rfl bh rfl Kh ?_) | (with_reducible refine load_t rfl (.tmp 15) rfl bl rfl Kl ?_))
  clear e0b e1b e2b e3b e4b
  refine (room_is 4 2 Ab mb pb Bb kb qb Cb nb rb [0] [1] [1] 7 _ tb ((okT_iff _).1 (by decide)) (by decide)).mono ?_
  rintro e' z2 ⟨rfl, hb⟩
  replace ta := ta.later hb
  replace Ka := Ka.later hb
  replace tu := tu.later hb
  replace Ku := Ku.later hb
  replace tb := tb.later hb
  replace Kb := Kb.later hb
  replace tc := tc.later hb
  replace Kc := Kc.later hb
  replace td := td.later hb
  replace Kd := Kd.later hb
  replace tg := tg.later hb
  replace Kg := Kg.later hb
  replace th := th.later hb
  replace Kh := Kh.later hb
  replace tl := tl.later hb
  replace Kl := Kl.later hb
  replace BB := Ge.trans BB hb
  clear hb
  have e0c : z2.cell? ⟨bc, 0, none⟩ = some (.int .i64 4) := Kc.cell 0
  have e1c : z2.cell? ⟨bc, 1, none⟩ = some (.int .i64 2) := Kc.cell 1
  have e2c : z2.cell? ⟨bc, 2, none⟩ = some (.slice Ac mc pc) := Kc.cell 2
  have e3c : z2.cell? ⟨bc, 3, none⟩ = some (.slice Bc kc qc) := Kc.cell 3
  have e4c : z2.cell? ⟨bc, 4, none⟩ = some (.slice Cc nc rc) := Kc.cell 4
  go_wp2_with (first | (with_reducible refine load_t rfl (.tmp 1) rfl ba rfl Ka ?_) | (with_reducible refine load_t rfl (.tmp 3) rfl bu rfl Ku ?_) | (with_reducible refine load_t rfl (.tmp 5) rfl bb rfl Kb ?_) | (with_reducible refine load_t rfl (.tmp 7) rfl bc rfl Kc ?_) | (with_reducible refine load_t rfl (.tmp 9) rfl bd rfl Kd ?_) | (with_reducible refine load_t rfl (.tmp 11) rfl bg rfl Kg ?_) | (with_reducible refine load_t rfl (.tmp 13) rfl bh rfl Kh ?_) | (with_reducible refine load_t rfl (.tmp 15) rfl bl rfl Kl ?_))
  clear e0c e1c e2c e3c e4c
  refine (room_is 4 2 Ac mc pc Bc kc qc Cc nc rc [0, 1] [1, 0] [1, 3] 6 _ tc ((okT_iff _).1 (by decide)) (by decide)).mono ?_
  rintro e' z3 ⟨rfl, hb⟩
  replace ta := ta.later hb
  replace Ka := Ka.later hb
  replace tu := tu.later hb
  replace Ku := Ku.later hb
  replace tb := tb.later hb
  replace Kb := Kb.later hb
  replace tc := tc.later hb
  replace Kc := Kc.later hb
  replace td := td.later hb
  replace Kd := Kd.later hb
  replace tg := tg.later hb
  replace Kg := Kg.later hb
  replace th := th.later hb
  replace Kh := Kh.later hb
  replace tl := tl.later hb
  replace Kl := Kl.later hb
  replace BB := Ge.trans BB hb
  clear hb
  have e0d : z3.cell? ⟨bd, 0, none⟩ = some (.int .i64 4) := Kd.cell 0
  have e1d : z3.cell? ⟨bd, 1, none⟩ = some (.int .i64 2) := Kd.cell 1
  have e2d : z3.cell? ⟨bd, 2, none⟩ = some (.slice Ad md pd) := Kd.cell 2
  have e3d : z3.cell? ⟨bd, 3, none⟩ = some (.slice Bd kd qd) := Kd.cell 3
  have e4d : z3.cell? ⟨bd, 4, none⟩ = some (.slice Cd nd rd) := Kd.cell 4
  go_wp2_with (first | (with_reducible refine load_t rfl (.tmp 1) rfl ba rfl Ka ?_) | (with_reducible refine load_t rfl (.tmp 3) rfl bu rfl Ku ?_) | (with_reducible refine load_t rfl (.tmp 5) rfl bb rfl Kb ?_) | (with_reducible refine load_t rfl (.tmp 7) rfl bc rfl Kc ?_) | (with_reducible refine load_t rfl (.tmp 9) rfl bd rfl Kd ?_) | (with_reducible refine load_t rfl (.tmp 11) rfl bg rfl Kg ?_) | (with_reducible refine load_t rfl (.tmp 13) rfl bh rfl Kh ?_) | (with_reducible refine load_t rfl (.tmp 15) rfl bl rfl Kl ?_))
  clear e0d e1d e2d e3d e4d
  refine (room_is 4 2 Ad md pd Bd kd qd Cd nd rd [1] [0] [3] 8 _ td ((okT_iff _).1 (by decide)) (by decide)).mono ?_
  rintro e' z4 ⟨rfl, hb⟩
  replace ta := ta.later hb
  replace Ka := Ka.later hb
  replace tu := tu.later hb
  replace Ku := Ku.later hb
  replace tb := tb.later hb
  replace Kb := Kb.later hb
  replace tc := tc.later hb
  replace Kc := Kc.later hb
  replace td := td.later hb
  replace Kd := Kd.later hb
  replace tg := tg.later hb
  replace Kg := Kg.later hb
  replace th := th.later hb
  replace Kh := Kh.later hb
  replace tl := tl.later hb
  replace Kl := Kl.later hb
  replace BB := Ge.trans BB hb
  clear hb
  have e0c : z4.cell? ⟨bc, 0, none⟩ = some (.int .i64 4) := Kc.cell 0
  have e1c : z4.cell? ⟨bc, 1, none⟩ = some (.int .i64 2) := Kc.cell 1
  have e2c : z4.cell? ⟨bc, 2, none⟩ = some (.slice Ac mc pc) := Kc.cell 2
  have e3c : z4.cell? ⟨bc, 3, none⟩ = some (.slice Bc kc qc) := Kc.cell 3
  have e4c : z4.cell? ⟨bc, 4, none⟩ = some (.slice Cc nc rc) := Kc.cell 4
  go_wp2_with (first | (with_reducible refine load_t rfl (.tmp 1) rfl ba rfl Ka ?_) | (with_reducible refine load_t rfl (.tmp 3) rfl bu rfl Ku ?_) | (with_reducible refine load_t rfl (.tmp 5) rfl bb rfl Kb ?_) | (with_reducible refine load_t rfl (.tmp 7) rfl bc rfl Kc ?_) | (with_reducible refine load_t rfl (.tmp 9) rfl bd rfl Kd ?_) | (with_reducible refine load_t rfl (.tmp 11) rfl bg rfl Kg ?_) | (with_reducible refine load_t rfl (.tmp 13) rfl bh rfl Kh ?_) | (with_reducible refine load_t rfl (.tmp 15) rfl bl rfl Kl ?_))
  clear e0c e1c e2c e3c e4c
  refine (used_is 4 2 Ac mc pc Bc kc qc Cc nc rc [0, 1] [1, 0] [1, 3] 1 _ tc ⟨by decide, by decide⟩ (by decide)).mono ?_
  rintro e' z5 ⟨rfl, hb⟩
  replace ta := ta.later hb
  replace Ka := Ka.later hb
  replace tu := tu.later hb
  replace Ku := Ku.later hb
  replace tb := tb.later hb
  replace Kb := Kb.later hb
  replace tc := tc.later hb
  replace Kc := Kc.later hb
  replace td := td.later hb
  replace Kd := Kd.later hb
  replace tg := tg.later hb
  replace Kg := Kg.later hb
  replace th := th.later hb
  replace Kh := Kh.later hb
  replace tl := tl.later hb
  replace Kl := Kl.later hb
  replace BB := Ge.trans BB hb
  clear hb
  have e0c : z5.cell? ⟨bc, 0, none⟩ = some (.int .i64 4) := Kc.cell 0
  have e1c : z5.cell? ⟨bc, 1, none⟩ = some (.int .i64 2) := Kc.cell 1
  have e2c : z5.cell? ⟨bc, 2, none⟩ = some (.slice Ac mc pc) := Kc.cell 2
  have e3c : z5.cell? ⟨bc, 3, none⟩ = some (.slice Bc kc qc) := Kc.cell 3
  have e4c : z5.cell? ⟨bc, 4, none⟩ = some (.slice Cc nc rc) := Kc.cell 4
  go_wp2_with (first | (with_reducible refine load_t rfl (.tmp 1) rfl ba rfl Ka ?_) | (with_reducible refine load_t rfl (.tmp 3) rfl bu rfl Ku ?_) | (with_reducible refine load_t rfl (.tmp 5) rfl bb rfl Kb ?_) | (with_reducible refine load_t rfl (.tmp 7) rfl bc rfl Kc ?_) | (with_reducible refine load_t rfl (.tmp 9) rfl bd rfl Kd ?_) | (with_reducible refine load_t rfl (.tmp 11) rfl bg rfl Kg ?_) | (with_reducible refine load_t rfl (.tmp 13) rfl bh rfl Kh ?_) | (with_reducible refine load_t rfl (.tmp 15) rfl bl rfl Kl ?_))
  clear e0c e1c e2c e3c e4c
  refine (len_is 4 2 Ac mc pc Bc kc qc Cc nc rc [0, 1] [1, 0] [1, 3] 0 1 _ tc (size_le tc.a (by decide)) (by decide) (by decide)).mono ?_
  rintro e' z6 ⟨rfl, hb⟩
  replace ta := ta.later hb
  replace Ka := Ka.later hb
  replace tu := tu.later hb
  replace Ku := Ku.later hb
  replace tb := tb.later hb
  replace Kb := Kb.later hb
  replace tc := tc.later hb
  replace Kc := Kc.later hb
  replace td := td.later hb
  replace Kd := Kd.later hb
  replace tg := tg.later hb
  replace Kg := Kg.later hb
  replace th := th.later hb
  replace Kh := Kh.later hb
  replace tl := tl.later hb
  replace Kl := Kl.later hb
  replace BB := Ge.trans BB hb
  clear hb
  have e0c : z6.cell? ⟨bc, 0, none⟩ = some (.int .i64 4) := Kc.cell 0
  have e1c : z6.cell? ⟨bc, 1, none⟩ = some (.int .i64 2) := Kc.cell 1
  have e2c : z6.cell? ⟨bc, 2, none⟩ = some (.slice Ac mc pc) := Kc.cell 2
  have e3c : z6.cell? ⟨bc, 3, none⟩ = some (.slice Bc kc qc) := Kc.cell 3
  have e4c : z6.cell? ⟨bc, 4, none⟩ = some (.slice Cc nc rc) := Kc.cell 4
  go_wp2_with (first | (with_reducible refine load_t rfl (.tmp 1) rfl ba rfl Ka ?_) | (with_reducible refine load_t rfl (.tmp 3) rfl bu rfl Ku ?_) | (with_reducible refine load_t rfl (.tmp 5) rfl bb rfl Kb ?_) | (with_reducible refine load_t rfl (.tmp 7) rfl bc rfl Kc ?_) | (with_reducible refine load_t rfl (.tmp 9) rfl bd rfl Kd ?_) | (with_reducible refine load_t rfl (.tmp 11) rfl bg rfl Kg ?_) | (with_reducible refine load_t rfl (.tmp 13) rfl bh rfl Kh ?_) | (with_reducible refine load_t rfl (.tmp 15) rfl bl rfl Kl ?_))
  clear e0c e1c e2c e3c e4c
  refine (len_is 4 2 Ac mc pc Bc kc qc Cc nc rc [0, 1] [1, 0] [1, 3] 3 0 _ tc (size_le tc.a (by decide)) (by decide) (by decide)).mono ?_
  rintro e' z7 ⟨rfl, hb⟩
  replace ta := ta.later hb
  replace Ka := Ka.later hb
  replace tu := tu.later hb
  replace Ku := Ku.later hb
  replace tb := tb.later hb
  replace Kb := Kb.later hb
  replace tc := tc.later hb
  replace Kc := Kc.later hb
  replace td := td.later hb
  replace Kd := Kd.later hb
  replace tg := tg.later hb
  replace Kg := Kg.later hb
  replace th := th.later hb
  replace Kh := Kh.later hb
  replace tl := tl.later hb
  replace Kl := Kl.later hb
  replace BB := Ge.trans BB hb
  clear hb
  have e0c : z7.cell? ⟨bc, 0, none⟩ = some (.int .i64 4) := Kc.cell 0
  have e1c : z7.cell? ⟨bc, 1, none⟩ = some (.int .i64 2) := Kc.cell 1
  have e2c : z7.cell? ⟨bc, 2, none⟩ = some (.slice Ac mc pc) := Kc.cell 2
  have e3c : z7.cell? ⟨bc, 3, none⟩ = some (.slice Bc kc qc) := Kc.cell 3
  have e4c : z7.cell? ⟨bc, 4, none⟩ = some (.slice Cc nc rc) := Kc.cell 4
  go_wp2_with (first | (with_reducible refine load_t rfl (.tmp 1) rfl ba rfl Ka ?_) | (with_reducible refine load_t rfl (.tmp 3) rfl bu rfl Ku ?_) | (with_reducible refine load_t rfl (.tmp 5) rfl bb rfl Kb ?_) | (with_reducible refine load_t rfl (.tmp 7) rfl bc rfl Kc ?_) | (with_reducible refine load_t rfl (.tmp 9) rfl bd rfl Kd ?_) | (with_reducible refine load_t rfl (.tmp 11) rfl bg rfl Kg ?_) | (with_reducible refine load_t rfl (.tmp 13) rfl bh rfl Kh ?_) | (with_reducible refine load_t rfl (.tmp 15) rfl bl rfl Kl ?_))
  clear e0c e1c e2c e3c e4c
  refine (tfree_any 4 2 Ac mc pc Bc kc qc Cc nc rc [0, 1] [1, 0] [1, 3] _ tc (size_le tc.a (by decide)) (by decide)).mono ?_
  rintro e' z8 ⟨Af, mf, pf, rfl, sf, hb⟩
  replace sf : Sl .i64 z8 Af mf [2, 3] := sf
  replace ta := ta.later hb
  replace Ka := Ka.later hb
  replace tu := tu.later hb
  replace Ku := Ku.later hb
  replace tb := tb.later hb
  replace Kb := Kb.later hb
  replace tc := tc.later hb
  replace Kc := Kc.later hb
  replace td := td.later hb
  replace Kd := Kd.later hb
  replace tg := tg.later hb
  replace Kg := Kg.later hb
  replace th := th.later hb
  replace Kh := Kh.later hb
  replace tl := tl.later hb
  replace Kl := Kl.later hb
  replace BB := Ge.trans BB hb
  clear hb
  have N1 := Blk.new z8 3 #[.int .i64 2, .int .i64 3]
  have hb := below1 z8 (.cells #[.int .i64 2, .int .i64 3] 3)
  go_wp2_with (first | (with_reducible refine load_t rfl (.tmp 1) rfl ba rfl Ka ?_) | (with_reducible refine load_t rfl (.tmp 3) rfl bu rfl Ku ?_) | (with_reducible refine load_t rfl (.tmp 5) rfl bb rfl Kb ?_) | (with_reducible refine load_t rfl (.tmp 7) rfl bc rfl Kc ?_) | (with_reducible refine load_t rfl (.tmp 9) rfl bd rfl Kd ?_) | (with_reducible refine load_t rfl (.tmp 11) rfl bg rfl Kg ?_) | (with_reducible refine load_t rfl (.tmp 13) rfl bh rfl Kh ?_) | (with_reducible refine load_t rfl (.tmp 15) rfl bl rfl Kl ?_))
  replace ta := ta.later hb
  replace Ka := Ka.later hb
  replace tu := tu.later hb
  replace Ku := Ku.later hb
  replace tb := tb.later hb
  replace Kb := Kb.later hb
  replace tc := tc.later hb
  replace Kc := Kc.later hb
  replace td := td.later hb
  replace Kd := Kd.later hb
  replace tg := tg.later hb
  replace Kg := Kg.later hb
  replace th := th.later hb
  replace Kh := Kh.later hb
  replace tl := tl.later hb
  replace Kl := Kl.later hb
  replace sf := sf.later hb
  replace BB := Ge.trans BB hb
  clear hb
  refine (ints_yes Af mf pf _ 2 2 [2, 3] _ sf (sl_two N1) (size_le sf (by decide))).mono ?_
  rintro e' z9 ⟨rfl, hb⟩
  replace ta := ta.later hb
  replace Ka := Ka.later hb
  replace tu := tu.later hb
  replace Ku := Ku.later hb
  replace tb := tb.later hb
  replace Kb := Kb.later hb
  replace tc := tc.later hb
  replace Kc := Kc.later hb
  replace td := td.later hb
  replace Kd := Kd.later hb
  replace tg := tg.later hb
  replace Kg := Kg.later hb
  replace th := th.later hb
  replace Kh := Kh.later hb
  replace tl := tl.later hb
  replace Kl := Kl.later hb
  replace sf := sf.later hb
  replace BB := Ge.trans BB hb
  clear hb
  clear N1 sf
  have e0l : z9.cell? ⟨bl, 0, none⟩ = some (.int .i64 4) := Kl.cell 0
  have e1l : z9.cell? ⟨bl, 1, none⟩ = some (.int .i64 2) := Kl.cell 1
  have e2l : z9.cell? ⟨bl, 2, none⟩ = some (.slice Al ml pl) := Kl.cell 2
  have e3l : z9.cell? ⟨bl, 3, none⟩ = some (.slice Bl kl ql) := Kl.cell 3
  have e4l : z9.cell? ⟨bl, 4, none⟩ = some (.slice Cl nl rl) := Kl.cell 4
  go_wp2_with (first | (with_reducible refine load_t rfl (.tmp 1) rfl ba rfl Ka ?_) | (with_reducible refine load_t rfl (.tmp 3) rfl bu rfl Ku ?_) | (with_reducible refine load_t rfl (.tmp 5) rfl bb rfl Kb ?_) | (with_reducible refine load_t rfl (.tmp 7) rfl bc rfl Kc ?_) | (with_reducible refine load_t rfl (.tmp 9) rfl bd rfl Kd ?_) | (with_reducible refine load_t rfl (.tmp 11) rfl bg rfl Kg ?_) | (with_reducible refine load_t rfl (.tmp 13) rfl bh rfl Kh ?_) | (with_reducible refine load_t rfl (.tmp 15) rfl bl rfl Kl ?_))
  clear e0l e1l e2l e3l e4l
  refine (ref_any 4 2 Al ml pl Bl kl ql Cl nl rl _).mono ?_
  rintro e' z10 ⟨rfl, hb⟩
  replace ta := ta.later hb
  replace Ka := Ka.later hb
  replace tu := tu.later hb
  replace Ku := Ku.later hb
  replace tb := tb.later hb
  replace Kb := Kb.later hb
  replace tc := tc.later hb
  replace Kc := Kc.later hb
  replace td := td.later hb
  replace Kd := Kd.later hb
  replace tg := tg.later hb
  replace Kg := Kg.later hb
  replace th := th.later hb
  replace Kh := Kh.later hb
  replace tl := tl.later hb
  replace Kl := Kl.later hb
  replace BB := Ge.trans BB hb
  clear hb
  have M1 := Blk.new z10 3 #[.int .i64 1, .int .i64 0]
  have M2 := Blk.at_ (b := z10.heap.size + 1) (z10.alloc (.cells #[.int .i64 1, .int .i64 0] 3)) 3 #[.int .i64 0, .int .i64 0] (by simp)
  have M3 := Blk.at_ (b := z10.heap.size + 1 + 1) ((z10.alloc (.cells #[.int .i64 1, .int .i64 0] 3)).alloc (.cells #[.int .i64 0, .int .i64 0] 3)) 23 #[.int .u64 3, .int .u64 9] (by simp)
  have g1 := below1 z10 (.cells #[.int .i64 1, .int .i64 0] 3)
  have g2 := below1 (z10.alloc (.cells #[.int .i64 1, .int .i64 0] 3)) (.cells #[.int .i64 0, .int .i64 0] 3)
  have g3 := below1 ((z10.alloc (.cells #[.int .i64 1, .int .i64 0] 3)).alloc (.cells #[.int .i64 0, .int .i64 0] 3)) (.cells #[.int .u64 3, .int .u64 9] 23)
  replace M1 := (M1.later g2).later g3
  replace M2 := M2.later g3
  have hb := Ge.trans (Ge.trans g1 g2) g3
  clear g1 g2 g3
  go_wp2_with (first | (with_reducible refine load_t rfl (.tmp 1) rfl ba rfl Ka ?_) | (with_reducible refine load_t rfl (.tmp 3) rfl bu rfl Ku ?_) | (with_reducible refine load_t rfl (.tmp 5) rfl bb rfl Kb ?_) | (with_reducible refine load_t rfl (.tmp 7) rfl bc rfl Kc ?_) | (with_reducible refine load_t rfl (.tmp 9) rfl bd rfl Kd ?_) | (with_reducible refine load_t rfl (.tmp 11) rfl bg rfl Kg ?_) | (with_reducible refine load_t rfl (.tmp 13) rfl bh rfl Kh ?_) | (with_reducible refine load_t rfl (.tmp 15) rfl bl rfl Kl ?_))
  replace ta := ta.later hb
  replace Ka := Ka.later hb
  replace tu := tu.later hb
  replace Ku := Ku.later hb
  replace tb := tb.later hb
  replace Kb := Kb.later hb
  replace tc := tc.later hb
  replace Kc := Kc.later hb
  replace td := td.later hb
  replace Kd := Kd.later hb
  replace tg := tg.later hb
  replace Kg := Kg.later hb
  replace th := th.later hb
  replace Kh := Kh.later hb
  replace tl := tl.later hb
  replace Kl := Kl.later hb
  replace BB := Ge.trans BB hb
  clear hb
  refine (same_yes 4 2 Al ml pl Bl kl ql Cl nl rl _ 2 2 _ 2 2 _ 2 2 [1, 0] [0, 0] [3, 9] _ tl ⟨sl_two M1, sl_two M2, sl_two M3⟩ (size_le tl.a (by decide)) (size_le tl.b (by decide)) (size_le tl.c (by decide))).mono ?_
  rintro e' z11 ⟨rfl, hb⟩
  replace ta := ta.later hb
  replace Ka := Ka.later hb
  replace tu := tu.later hb
  replace Ku := Ku.later hb
  replace tb := tb.later hb
  replace Kb := Kb.later hb
  replace tc := tc.later hb
  replace Kc := Kc.later hb
  replace td := td.later hb
  replace Kd := Kd.later hb
  replace tg := tg.later hb
  replace Kg := Kg.later hb
  replace th := th.later hb
  replace Kh := Kh.later hb
  replace tl := tl.later hb
  replace Kl := Kl.later hb
  replace BB := Ge.trans BB hb
  clear hb
  clear M1 M2 M3
  go_wp2_with (first | (with_reducible refine load_t rfl (.tmp 1) rfl ba rfl Ka ?_) | (with_reducible refine load_t rfl (.tmp 3) rfl bu rfl Ku ?_) | (with_reducible refine load_t rfl (.tmp 5) rfl bb rfl Kb ?_) | (with_reducible refine load_t rfl (.tmp 7) rfl bc rfl Kc ?_) | (with_reducible refine load_t rfl (.tmp 9) rfl bd rfl Kd ?_) | (with_reducible refine load_t rfl (.tmp 11) rfl bg rfl Kg ?_) | (with_reducible refine load_t rfl (.tmp 13) rfl bh rfl Kh ?_) | (with_reducible refine load_t rfl (.tmp 15) rfl bl rfl Kl ?_))
  have Q : Calls Try.prog 27 #[.int .i64 2, .agg #[.int .i64 1, .int .i64 2]] z11 fun e w' => e = .returned (.int .i64 (7)) ∧ Below z11.heap.size z11 w' := tsector_any 2 1 2 z11
  refine Q.mono ?_
  clear Q
  rintro e' z12 ⟨rfl, hb⟩
  replace ta := ta.later hb
  replace Ka := Ka.later hb
  replace tu := tu.later hb
  replace Ku := Ku.later hb
  replace tb := tb.later hb
  replace Kb := Kb.later hb
  replace tc := tc.later hb
  replace Kc := Kc.later hb
  replace td := td.later hb
  replace Kd := Kd.later hb
  replace tg := tg.later hb
  replace Kg := Kg.later hb
  replace th := th.later hb
  replace Kh := Kh.later hb
  replace tl := tl.later hb
  replace Kl := Kl.later hb
  replace BB := Ge.trans BB hb
  clear hb
  go_wp2_with (first | (with_reducible refine load_t rfl (.tmp 1) rfl ba rfl Ka ?_) | (with_reducible refine load_t rfl (.tmp 3) rfl bu rfl Ku ?_) | (with_reducible refine load_t rfl (.tmp 5) rfl bb rfl Kb ?_) | (with_reducible refine load_t rfl (.tmp 7) rfl bc rfl Kc ?_) | (with_reducible refine load_t rfl (.tmp 9) rfl bd rfl Kd ?_) | (with_reducible refine load_t rfl (.tmp 11) rfl bg rfl Kg ?_) | (with_reducible refine load_t rfl (.tmp 13) rfl bh rfl Kh ?_) | (with_reducible refine load_t rfl (.tmp 15) rfl bl rfl Kl ?_))
  have Q : Calls Try.prog 27 #[.int .i64 2, .agg #[.int .i64 1, .int .i64 3]] z12 fun e w' => e = .returned (.int .i64 (-1)) ∧ Below z12.heap.size z12 w' := tsector_any 2 1 3 z12
  refine Q.mono ?_
  clear Q
  rintro e' z13 ⟨rfl, hb⟩
  replace ta := ta.later hb
  replace Ka := Ka.later hb
  replace tu := tu.later hb
  replace Ku := Ku.later hb
  replace tb := tb.later hb
  replace Kb := Kb.later hb
  replace tc := tc.later hb
  replace Kc := Kc.later hb
  replace td := td.later hb
  replace Kd := Kd.later hb
  replace tg := tg.later hb
  replace Kg := Kg.later hb
  replace th := th.later hb
  replace Kh := Kh.later hb
  replace tl := tl.later hb
  replace Kl := Kl.later hb
  replace BB := Ge.trans BB hb
  clear hb
  go_wp2_with (first | (with_reducible refine load_t rfl (.tmp 1) rfl ba rfl Ka ?_) | (with_reducible refine load_t rfl (.tmp 3) rfl bu rfl Ku ?_) | (with_reducible refine load_t rfl (.tmp 5) rfl bb rfl Kb ?_) | (with_reducible refine load_t rfl (.tmp 7) rfl bc rfl Kc ?_) | (with_reducible refine load_t rfl (.tmp 9) rfl bd rfl Kd ?_) | (with_reducible refine load_t rfl (.tmp 11) rfl bg rfl Kg ?_) | (with_reducible refine load_t rfl (.tmp 13) rfl bh rfl Kh ?_) | (with_reducible refine load_t rfl (.tmp 15) rfl bl rfl Kl ?_))
  refine (right_is 0 0 none 0 0 none 0 0 none 0 0 [] [] [] false _ (TIn.zero _) (by decide) (by decide) (by decide) (by decide) (by decide)).mono ?_
  rintro e' z14 ⟨rfl, hb⟩
  replace ta := ta.later hb
  replace Ka := Ka.later hb
  replace tu := tu.later hb
  replace Ku := Ku.later hb
  replace tb := tb.later hb
  replace Kb := Kb.later hb
  replace tc := tc.later hb
  replace Kc := Kc.later hb
  replace td := td.later hb
  replace Kd := Kd.later hb
  replace tg := tg.later hb
  replace Kg := Kg.later hb
  replace th := th.later hb
  replace Kh := Kh.later hb
  replace tl := tl.later hb
  replace Kl := Kl.later hb
  replace BB := Ge.trans BB hb
  clear hb
  go_wp2_with (first | (with_reducible refine load_t rfl (.tmp 1) rfl ba rfl Ka ?_) | (with_reducible refine load_t rfl (.tmp 3) rfl bu rfl Ku ?_) | (with_reducible refine load_t rfl (.tmp 5) rfl bb rfl Kb ?_) | (with_reducible refine load_t rfl (.tmp 7) rfl bc rfl Kc ?_) | (with_reducible refine load_t rfl (.tmp 9) rfl bd rfl Kd ?_) | (with_reducible refine load_t rfl (.tmp 11) rfl bg rfl Kg ?_) | (with_reducible refine load_t rfl (.tmp 13) rfl bh rfl Kh ?_) | (with_reducible refine load_t rfl (.tmp 15) rfl bl rfl Kl ?_))
  go_ret
  exact ⟨rfl, BB⟩
end Go.Proofs.Ytpgbbbgblgkokaa
