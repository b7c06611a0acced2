/- The statements' own do: where both tables read as the same plain one, both calls tell the same; no memory that was there is changed. -/
import Derived.Test.YtpgbbbgblgkokaaTbY
import Derived.Test.YtpgbbbgblgkokaaTbDr
import Derived.Test.YtpgbbbgblgkokaaTbZ
import Derived.Test.YtpgbbbgblgkokaaTbSt
import Derived.Deep.DeepCutAuto
import Derived.Deep.RegionWith
import Derived.Test.YtpgbbbgblgkokaaClass
namespace Go.Proofs.Ytpgbbbgblgkokaa
open Go.RowKit Go.Lib
set_option linter.unusedVariables false

theorem Ge.trans2 {n : Nat} {a b c : World} (h : Below n a b) (k : Below n b c) : Below n a c := h.trans k
/-- While two blocks are written, in whatever order. -/
structure Tw (wt : World) (b6 b7 : Nat) (c1 c2 : Array Value) (listed : Array Bool) (a : Act) (W : World) : Prop where
  p : listed.getD 2 false = false → Blk W b6 28 (csT 0 0 none 0 0 none 0 0 none 0 0)
  p' : listed.getD 2 false = true → Blk W b6 28 c1
  q : listed.getD 3 false = false → Blk W b7 32 (csT 0 0 none 0 0 none 0 0 none 0 0)
  q' : listed.getD 3 false = true → Blk W b7 32 c2
  r : ∀ g, g ≠ b6 → g ≠ b7 → W.heap[g]? = wt.heap[g]?
  s : W.heap.size = wt.heap.size
  bel : ∀ n, n ≤ b6 → n ≤ b7 → Below n wt W
  ne : b6 ≠ b7
section
variable {wt W : World} {b6 b7 : Nat} {c1 c2 : Array Value} {listed : Array Bool} {a : Act}
theorem Tw.start (h6 : Blk wt b6 28 (csT 0 0 none 0 0 none 0 0 none 0 0)) (h7 : Blk wt b7 32 (csT 0 0 none 0 0 none 0 0 none 0 0)) (hne : b6 ≠ b7) : Tw wt b6 b7 c1 c2 (Array.replicate 5 false) a { wt with drawn := wt.drawn + 1 } :=
  ⟨fun _ => h6, fun e => by simp at e, fun _ => h7, fun e => by simp at e, fun _ _ _ => rfl, rfl, fun n _ _ => (Below.refl n wt).drew, hne⟩
theorem Tw.same (h : Tw wt b6 b7 c1 c2 listed a W) (i : Nat) (h2 : i ≠ 2) (h3 : i ≠ 3) {a' : Act} : Tw wt b6 b7 c1 c2 (listed.setIfInBounds i true) a' W := by
  have e2 : (listed.setIfInBounds i true).getD 2 false = listed.getD 2 false := getD_set_ne false h2
  have e3 : (listed.setIfInBounds i true).getD 3 false = listed.getD 3 false := getD_set_ne false h3
  exact ⟨by rw [e2]; exact h.p, by rw [e2]; exact h.p', by rw [e3]; exact h.q, by rw [e3]; exact h.q', h.r, h.s, h.bel, h.ne⟩
theorem Tw.st6 (h : Tw wt b6 b7 c1 c2 listed a W) (h2 : 2 < listed.size) (_ : 3 < listed.size) (hno : listed.getD 2 false = false) {a' : Act} : Tw wt b6 b7 c1 c2 (listed.setIfInBounds 2 true) a' (W.setRow b6 c1) := by
  have e2 : (listed.setIfInBounds 2 true).getD 2 false = true := by simp [h2]
  have e3 : (listed.setIfInBounds 2 true).getD 3 false = listed.getD 3 false := getD_set_ne false (by omega)
  exact ⟨fun e => (by rw [e2] at e; exact absurd e (by decide)), fun _ => (h.p hno).row _, fun e => (h.q (e3.symm.trans e)).far h.ne _, fun e => (h.q' (e3.symm.trans e)).far h.ne _,
    fun g h6 h7 => (setRow_other W b6 g c1 h6).trans (h.r g h6 h7), by rw [row_size]; exact h.s, fun n hn hn' => below_row (h.bel n hn hn') hn _, h.ne⟩
theorem Tw.st7 (h : Tw wt b6 b7 c1 c2 listed a W) (_ : 2 < listed.size) (h3 : 3 < listed.size) (hno : listed.getD 3 false = false) {a' : Act} : Tw wt b6 b7 c1 c2 (listed.setIfInBounds 3 true) a' (W.setRow b7 c2) := by
  have e3 : (listed.setIfInBounds 3 true).getD 3 false = true := by simp [h3]
  have e2 : (listed.setIfInBounds 3 true).getD 2 false = listed.getD 2 false := getD_set_ne false (by omega)
  exact ⟨fun e => (h.p (e2.symm.trans e)).far h.ne.symm _, fun e => (h.p' (e2.symm.trans e)).far h.ne.symm _, fun e => (by rw [e3] at e; exact absurd e (by decide)), fun _ => (h.q hno).row _,
    fun g h6 h7 => (setRow_other W b7 g c2 h7).trans (h.r g h6 h7), by rw [row_size]; exact h.s, fun n hn hn' => below_row (h.bel n hn hn') hn' _, h.ne⟩
end
theorem Sl.sameF {κ : IntKind} {W W' W0 : World} {A : Option Addr} {m base : Nat} {l : List Int} (h : Sl κ W A m l) (hf : Fresh W0 base A m) (hs : W'.heap.size = W.heap.size) (r : ∀ g, base ≤ g → W'.heap[g]? = W.heap[g]?) : Sl κ W' A m l := by
  refine ⟨h.len, fun hm => ?_⟩
  obtain ⟨b, o, rfl, hb, hc⟩ := h.cells hm
  obtain ⟨b', o', e, hbb, _⟩ := hf hm
  injection e with e
  injection e with e1 e2
  subst e1 e2
  exact ⟨b, o, rfl, by rw [hs]; exact hb, fun j hj => (World.cell?_of_block (w := W) (w' := W') (r b hbb)).trans (hc j hj)⟩
theorem TIn.sameF {W W' W0 : World} {A : Option Addr} {m : Nat} {B : Option Addr} {k : Nat} {C : Option Addr} {n base : Nat} {o l f : List Int} (h : TIn W A m B k C n o l f) (hf : Fresh W0 base A m ∧ Fresh W0 base B k ∧ Fresh W0 base C n) (hs : W'.heap.size = W.heap.size) (r : ∀ g, base ≤ g → W'.heap[g]? = W.heap[g]?) : TIn W' A m B k C n o l f :=
  ⟨h.a.sameF hf.1 hs r, h.b.sameF hf.2.1 hs r, h.c.sameF hf.2.2 hs r⟩
def wl (vs : List (Option Value)) : List (World → Value → Prop) := vs.map fun o _ u => match o with | none => True | some v => u = v
theorem wl_any {vs : List (Option Value)} {j : Nat} {W W' : World} {u : Value} (h : Free.V (wl vs) j W u) : Free.V (wl vs) j W' u := by
  unfold Free.V wl at *
  simp only [List.getD_eq_getElem?_getD, List.getElem?_map] at h ⊢
  cases hi : vs[j]? with
  | none => rw [hi] at h; exact h
  | some c => rw [hi] at h; exact h
/-- Lists that lie not in a block. -/
def Nb3 (A B C : Option Addr) (g : Nat) : Prop := (∀ a, A = some a → a.block ≠ g) ∧ (∀ a, B = some a → a.block ≠ g) ∧ (∀ a, C = some a → a.block ≠ g)
theorem Fresh.nb {W0 : World} {base m g : Nat} {A : Option Addr} (h : Fresh W0 base A m) (hm : 0 < m) (hg : g < base) : ∀ a, A = some a → a.block ≠ g := by
  obtain ⟨b, o, rfl, hb, _⟩ := h hm
  rintro a ha
  injection ha with ha
  subst ha
  simp only
  omega
theorem nb3_of {sg st : Int} {W W0 : World} {A : Option Addr} {m : Nat} {B : Option Addr} {k : Nat} {C : Option Addr} {n base g : Nat} {o l f : List Int} (hok : okP ⟨sg, st, o, l, f⟩) (h : TIn W A m B k C n o l f) (hf : Fresh W0 base A m ∧ Fresh W0 base B k ∧ Fresh W0 base C n) (hg : g < base) : Nb3 A B C g := by
  have h1 := ok_full hok h
  exact ⟨hf.1.nb (by omega) hg, hf.2.1.nb (by omega) hg, hf.2.2.nb (by omega) hg⟩
/-- What do tells: both tables read as the same plain one, and true. -/
def DoP (w : World) (Az Bz Cz Av Bv Cv : Option Addr) (en : Ending) (w' : World) : Prop :=
  ∃ (sg st : Int) (A : Option Addr) (m p : Nat) (B : Option Addr) (k q : Nat) (C : Option Addr) (n r : Nat) (A1 : Option Addr) (m1 p1 : Nat) (B1 : Option Addr) (k1 q1 : Nat) (C1 : Option Addr) (n1 r1 : Nat) (o l f : List Int),
    en = .returned (.tuple #[.agg #[.int .i64 sg, .int .i64 st, .slice A m p, .slice B k q, .slice C n r], .agg #[.int .i64 sg, .int .i64 st, .slice A1 m1 p1, .slice B1 k1 q1, .slice C1 n1 r1], .bool true]) ∧
    okP ⟨sg, st, o, l, f⟩ ∧ TIn w' A m B k C n o l f ∧ TIn w' A1 m1 B1 k1 C1 n1 o l f ∧ m ≤ p ∧ (∀ g, g < w.heap.size → (Nb3 Az Bz Cz g → Nb3 A B C g) ∧ (Nb3 Av Bv Cv g → Nb3 A1 B1 C1 g)) ∧ Below w.heap.size w w'

set_option maxRecDepth 100000 in
set_option maxHeartbeats 64000000 in
theorem do_any (sg st : Int) (Az : Option Addr) (mz pz : Nat) (Bz : Option Addr) (kz qz : Nat) (Cz : Option Addr) (nz rz : Nat) (Av : Option Addr) (mv pv : Nat) (Bv : Option Addr) (kv qv : Nat) (Cv : Option Addr) (nv rv : Nat) (o l f : List Int) (K G F : Int) (w : World) (hz : TIn w Az mz Bz kz Cz nz o l f) (hv1 : TIn w Av mv Bv kv Cv nv o l f) (hok : okP ⟨sg, st, o, l, f⟩) (hmp : mz ≤ pz) :
    Calls Try.prog 15 #[.agg #[.int .i64 sg, .int .i64 st, .slice Az mz pz, .slice Bz kz qz, .slice Cz nz rz], .agg #[.int .i64 sg, .int .i64 st, .slice Av mv pv, .slice Bv kv qv, .slice Cv nv rv], .agg #[.int .i64 K, .int .i64 G, .int .u64 F]] w (DoP w Az Bz Cz Av Bv Cv) := by
  have HO := Lib.hid hok
  have HZ0 := Lib.hid hz
  have HV0 := Lib.hid hv1
  have hv := Try.zeroValue28
  have hv2 := Try.zeroValue32
  have BB : Below w.heap.size w (((((w.alloc (.cells #[.int .i64 sg, .int .i64 st, .slice Az mz pz, .slice Bz kz qz, .slice Cz nz rz] 28)).alloc (.cells #[.int .i64 sg, .int .i64 st, .slice Av mv pv, .slice Bv kv qv, .slice Cv nv rv] 32)).alloc (.cells #[.int .i64 K, .int .i64 G, .int .u64 F] 42)).alloc (.cells #[.int .i64 0, .int .i64 0, .slice none 0 0, .slice none 0 0, .slice none 0 0] 28)).alloc (.cells #[.int .i64 0, .int .i64 0, .slice none 0 0, .slice none 0 0, .slice none 0 0] 32)) := Ge.trans (Ge.trans (Ge.trans (Ge.trans (below1 _ _) (below1 _ _)) (below1 _ _)) (below1 _ _)) (below1 _ _)
  have Kz : Blk (((((w.alloc (.cells #[.int .i64 sg, .int .i64 st, .slice Az mz pz, .slice Bz kz qz, .slice Cz nz rz] 28)).alloc (.cells #[.int .i64 sg, .int .i64 st, .slice Av mv pv, .slice Bv kv qv, .slice Cv nv rv] 32)).alloc (.cells #[.int .i64 K, .int .i64 G, .int .u64 F] 42)).alloc (.cells #[.int .i64 0, .int .i64 0, .slice none 0 0, .slice none 0 0, .slice none 0 0] 28)).alloc (.cells #[.int .i64 0, .int .i64 0, .slice none 0 0, .slice none 0 0, .slice none 0 0] 32)) w.heap.size 28 (csT sg st Az mz pz Bz kz qz Cz nz rz) := ((((Blk.new w _ _).later (below1 _ _)).later (below1 _ _)).later (below1 _ _)).later (below1 _ _)
  have Kv : Blk (((((w.alloc (.cells #[.int .i64 sg, .int .i64 st, .slice Az mz pz, .slice Bz kz qz, .slice Cz nz rz] 28)).alloc (.cells #[.int .i64 sg, .int .i64 st, .slice Av mv pv, .slice Bv kv qv, .slice Cv nv rv] 32)).alloc (.cells #[.int .i64 K, .int .i64 G, .int .u64 F] 42)).alloc (.cells #[.int .i64 0, .int .i64 0, .slice none 0 0, .slice none 0 0, .slice none 0 0] 28)).alloc (.cells #[.int .i64 0, .int .i64 0, .slice none 0 0, .slice none 0 0, .slice none 0 0] 32)) (w.heap.size + 1) 32 (csT sg st Av mv pv Bv kv qv Cv nv rv) := (((Blk.at_ _ _ _ (by simp)).later (below1 _ _)).later (below1 _ _)).later (below1 _ _)
  have K5 : Blk (((((w.alloc (.cells #[.int .i64 sg, .int .i64 st, .slice Az mz pz, .slice Bz kz qz, .slice Cz nz rz] 28)).alloc (.cells #[.int .i64 sg, .int .i64 st, .slice Av mv pv, .slice Bv kv qv, .slice Cv nv rv] 32)).alloc (.cells #[.int .i64 K, .int .i64 G, .int .u64 F] 42)).alloc (.cells #[.int .i64 0, .int .i64 0, .slice none 0 0, .slice none 0 0, .slice none 0 0] 28)).alloc (.cells #[.int .i64 0, .int .i64 0, .slice none 0 0, .slice none 0 0, .slice none 0 0] 32)) (w.heap.size + 1 + 1) 42 #[.int .i64 K, .int .i64 G, .int .u64 F] := ((Blk.at_ _ _ _ (by simp)).later (below1 _ _)).later (below1 _ _)
  have Z6 : Blk (((((w.alloc (.cells #[.int .i64 sg, .int .i64 st, .slice Az mz pz, .slice Bz kz qz, .slice Cz nz rz] 28)).alloc (.cells #[.int .i64 sg, .int .i64 st, .slice Av mv pv, .slice Bv kv qv, .slice Cv nv rv] 32)).alloc (.cells #[.int .i64 K, .int .i64 G, .int .u64 F] 42)).alloc (.cells #[.int .i64 0, .int .i64 0, .slice none 0 0, .slice none 0 0, .slice none 0 0] 28)).alloc (.cells #[.int .i64 0, .int .i64 0, .slice none 0 0, .slice none 0 0, .slice none 0 0] 32)) (w.heap.size + 1 + 1 + 1) 28 (csT 0 0 none 0 0 none 0 0 none 0 0) := (Blk.at_ _ _ _ (by simp)).later (below1 _ _)
  have Z7 : Blk (((((w.alloc (.cells #[.int .i64 sg, .int .i64 st, .slice Az mz pz, .slice Bz kz qz, .slice Cz nz rz] 28)).alloc (.cells #[.int .i64 sg, .int .i64 st, .slice Av mv pv, .slice Bv kv qv, .slice Cv nv rv] 32)).alloc (.cells #[.int .i64 K, .int .i64 G, .int .u64 F] 42)).alloc (.cells #[.int .i64 0, .int .i64 0, .slice none 0 0, .slice none 0 0, .slice none 0 0] 28)).alloc (.cells #[.int .i64 0, .int .i64 0, .slice none 0 0, .slice none 0 0, .slice none 0 0] 32)) (w.heap.size + 1 + 1 + 1 + 1) 32 (csT 0 0 none 0 0 none 0 0 none 0 0) := Blk.at_ _ _ _ (by simp)
  have tz := hz.later BB
  have tv := hv1.later BB
  obtain ⟨kk, Es⟩ : ∃ s, bits .and .i64 K 3 = s := ⟨_, rfl⟩
  clear hz hv1
  obtain ⟨wi, EW⟩ : ∃ wi, Hid ((((((w.alloc (.cells #[.int .i64 sg, .int .i64 st, .slice Az mz pz, .slice Bz kz qz, .slice Cz nz rz] 28)).alloc (.cells #[.int .i64 sg, .int .i64 st, .slice Av mv pv, .slice Bv kv qv, .slice Cv nv rv] 32)).alloc (.cells #[.int .i64 K, .int .i64 G, .int .u64 F] 42)).alloc (.cells #[.int .i64 0, .int .i64 0, .slice none 0 0, .slice none 0 0, .slice none 0 0] 28)).alloc (.cells #[.int .i64 0, .int .i64 0, .slice none 0 0, .slice none 0 0, .slice none 0 0] 32)) = wi) := ⟨_, rfl⟩
  rw [EW.out] at BB Kz Kv K5 Z6 Z7 tz tv
  have hsz := Z7.lt
  go_enter Try.func15, Try.ntmps15
  go_upto_region 1 with fail
  rw [EW.out]
  clear EW
  obtain ⟨⟨sga, sta, oa, la, fa⟩, Ha⟩ : ∃ u, Hid (tabOf (countT ⟨sg, st, o, l, f⟩) = u) := ⟨_, Lib.hid rfl⟩
  obtain ⟨era, Ya⟩ : ∃ y, Hid (errOf (countT ⟨sg, st, o, l, f⟩) 10 = y) := ⟨_, Lib.hid rfl⟩
  go_wp2_with (first | (with_reducible refine load_t rfl (.tmp 3) rfl w.heap.size rfl Kz ?_) | (with_reducible refine load_r rfl (.tmp 4) rfl (w.heap.size + 1) rfl Kv ?_))
  refine (resv (sg := sga) (st := sta) (o := oa) (l := la) (f' := fa) (y' := era) (count_any sg st Az mz pz Bz kz qz Cz nz rz o l f _ tz HO.out) Ha.out Ya.out).mono ?_
  rintro e' wa ⟨Aa, ma, pa, Ba, ka, qa, Ca, na, ra, rfl, ta, mpa, fra, hb⟩
  replace Kz := Kz.later hb
  replace Kv := Kv.later hb
  replace K5 := K5.later hb
  replace Z6 := Z6.later hb
  replace Z7 := Z7.later hb
  replace tz := tz.later hb
  replace tv := tv.later hb
  replace BB := Ge.trans BB hb
  have hba0 := hb.size
  clear hb
  have Na : Blk (wa.alloc (.cells #[.int .i64 0, .int .i64 0, .slice none 0 0, .slice none 0 0, .slice none 0 0] 28)) wa.heap.size 28 (csT 0 0 none 0 0 none 0 0 none 0 0) := Blk.new wa _ _
  go_upto_region 2 with (with_reducible refine store_t rfl (.tmp 9) (.tmp 16) rfl wa.heap.size rfl rfl Na ?_)
  have hb3 : Below wa.heap.size wa ((wa.alloc (.cells #[.int .i64 0, .int .i64 0, .slice none 0 0, .slice none 0 0, .slice none 0 0] 28)).setRow wa.heap.size (csT sga sta Aa ma pa Ba ka qa Ca na ra)) := below_row (below1 _ _) (Nat.le_refl _) _
  have Ka : Blk ((wa.alloc (.cells #[.int .i64 0, .int .i64 0, .slice none 0 0, .slice none 0 0, .slice none 0 0] 28)).setRow wa.heap.size (csT sga sta Aa ma pa Ba ka qa Ca na ra)) wa.heap.size 28 (csT sga sta Aa ma pa Ba ka qa Ca na ra) := Na.row _
  replace Kz := Kz.later hb3
  replace Kv := Kv.later hb3
  replace K5 := K5.later hb3
  replace Z6 := Z6.later hb3
  replace Z7 := Z7.later hb3
  replace tz := tz.later hb3
  replace tv := tv.later hb3
  replace ta := ta.later hb3
  replace BB := Ge.trans BB hb3
  clear hb3 Na
  generalize (wa.alloc (.cells #[.int .i64 0, .int .i64 0, .slice none 0 0, .slice none 0 0, .slice none 0 0] 28)).setRow wa.heap.size (csT sga sta Aa ma pa Ba ka qa Ca na ra) = ya at *
  generalize wa.heap.size = ba at *
  have hBa : w.heap.size + 1 + 1 + 1 + 1 < ba := by have h1 := Nat.lt_of_lt_of_le hsz hba0; omega
  go_wp2_with (first | (with_reducible refine load_t rfl (.tmp 3) rfl w.heap.size rfl Kz ?_) | (with_reducible refine load_r rfl (.tmp 4) rfl (w.heap.size + 1) rfl Kv ?_) | (with_reducible refine load_t rfl (.tmp 9) rfl ba rfl Ka ?_))
  have Ka0 := Ka.lt
  refine (refv (sg := sga) (st := sta) (o := oa) (l := la) (f' := fa) (y' := era) (rcount_any sg st Av mv pv Bv kv qv Cv nv rv o l f _ tv HO.out) Ha.out Ya.out).mono ?_
  rintro e' wc ⟨Ac, mc, pc, Bc, kc, qc, Cc, nc, rc, rfl, tc, frc, hb⟩
  replace Kz := Kz.later hb
  replace Kv := Kv.later hb
  replace K5 := K5.later hb
  replace Z6 := Z6.later hb
  replace Z7 := Z7.later hb
  replace tz := tz.later hb
  replace tv := tv.later hb
  replace ta := ta.later hb
  replace Ka := Ka.later hb
  replace BB := Ge.trans BB hb
  have hba1 := Nat.lt_of_lt_of_le Ka0 hb.size
  clear hb
  have Nc : Blk (wc.alloc (.cells #[.int .i64 0, .int .i64 0, .slice none 0 0, .slice none 0 0, .slice none 0 0] 32)) wc.heap.size 32 (csT 0 0 none 0 0 none 0 0 none 0 0) := Blk.new wc _ _
  go_upto_region 3 with (with_reducible refine store_r rfl (.tmp 11) (.tmp 21) rfl wc.heap.size rfl rfl Nc ?_)
  have hb3 : Below wc.heap.size wc ((wc.alloc (.cells #[.int .i64 0, .int .i64 0, .slice none 0 0, .slice none 0 0, .slice none 0 0] 32)).setRow wc.heap.size (csT sga sta Ac mc pc Bc kc qc Cc nc rc)) := below_row (below1 _ _) (Nat.le_refl _) _
  have Kc : Blk ((wc.alloc (.cells #[.int .i64 0, .int .i64 0, .slice none 0 0, .slice none 0 0, .slice none 0 0] 32)).setRow wc.heap.size (csT sga sta Ac mc pc Bc kc qc Cc nc rc)) wc.heap.size 32 (csT sga sta Ac mc pc Bc kc qc Cc nc rc) := Nc.row _
  replace Kz := Kz.later hb3
  replace Kv := Kv.later hb3
  replace K5 := K5.later hb3
  replace Z6 := Z6.later hb3
  replace Z7 := Z7.later hb3
  replace tz := tz.later hb3
  replace tv := tv.later hb3
  replace ta := ta.later hb3
  replace Ka := Ka.later hb3
  replace tc := tc.later hb3
  replace BB := Ge.trans BB hb3
  clear hb3 Nc
  generalize (wc.alloc (.cells #[.int .i64 0, .int .i64 0, .slice none 0 0, .slice none 0 0, .slice none 0 0] 32)).setRow wc.heap.size (csT sga sta Ac mc pc Bc kc qc Cc nc rc) = yc at *
  generalize wc.heap.size = bc at *
  have hBc : ba < bc := by have h1 := hba1; omega
  by_cases h0 : kk = 0
  · subst h0
    obtain ⟨⟨sgb, stb, ob, lb, fb⟩, Hb⟩ : ∃ u, Hid (tabOf (rollT ⟨sg, st, o, l, f⟩ F) = u) := ⟨_, Lib.hid rfl⟩
    obtain ⟨erb, Yb⟩ : ∃ y, Hid (errOf (rollT ⟨sg, st, o, l, f⟩ F) 10 = y) := ⟨_, Lib.hid rfl⟩
    have x0 : yc.cell? ⟨w.heap.size + 1 + 1, 0, none⟩ = some (.int .i64 K) := K5.cell 0
    have x1 : yc.cell? ⟨w.heap.size + 1 + 1, 1, none⟩ = some (.int .i64 G) := K5.cell 1
    have x2 : yc.cell? ⟨w.heap.size + 1 + 1, 2, none⟩ = some (.int .u64 F) := K5.cell 2
    go_wp2_with (first | (with_reducible refine load_t rfl (.tmp 3) rfl w.heap.size rfl Kz ?_) | (with_reducible refine load_r rfl (.tmp 4) rfl (w.heap.size + 1) rfl Kv ?_) | (with_reducible refine load_t rfl (.tmp 9) rfl ba rfl Ka ?_) | (with_reducible refine load_r rfl (.tmp 11) rfl bc rfl Kc ?_))
    clear x0 x1 x2
    clear ta tc fra frc mpa
    have hlc := Kc.lt
    have hlb := Ka.lt
    refine (resv (sg := sgb) (st := stb) (o := ob) (l := lb) (f' := fb) (y' := erb) (roll_any sg st Az mz pz Bz kz qz Cz nz rz o l f F _ tz HO.out) Hb.out Yb.out).mono ?_
    rintro e' wb ⟨Ab, mb, pb, Bb, kb, qb, Cb, nb, rb, rfl, tb, mpb, frb, hb⟩
    replace Kz := Kz.later hb
    replace Kv := Kv.later hb
    replace K5 := K5.later hb
    replace Z6 := Z6.later hb
    replace Z7 := Z7.later hb
    replace tz := tz.later hb
    replace tv := tv.later hb
    replace Ka := Ka.later hb
    replace Kc := Kc.later hb
    replace BB := Ge.trans BB hb
    clear hb
    go_upto_region 6 with (with_reducible refine store_t rfl (.tmp 9) (.tmp 33) rfl ba rfl rfl Ka ?_)
    replace BB := below_row BB (show w.heap.size ≤ ba by omega) (csT sgb stb Ab mb pb Bb kb qb Cb nb rb)
    replace Kz := Kz.far (show ba ≠ w.heap.size by omega) (csT sgb stb Ab mb pb Bb kb qb Cb nb rb)
    replace Kv := Kv.far (show ba ≠ w.heap.size + 1 by omega) (csT sgb stb Ab mb pb Bb kb qb Cb nb rb)
    replace K5 := K5.far (show ba ≠ w.heap.size + 1 + 1 by omega) (csT sgb stb Ab mb pb Bb kb qb Cb nb rb)
    replace Z6 := Z6.far (show ba ≠ w.heap.size + 1 + 1 + 1 by omega) (csT sgb stb Ab mb pb Bb kb qb Cb nb rb)
    replace Z7 := Z7.far (show ba ≠ w.heap.size + 1 + 1 + 1 + 1 by omega) (csT sgb stb Ab mb pb Bb kb qb Cb nb rb)
    replace tz := HZ0.out.later BB
    replace tv := HV0.out.later BB
    have Kb := Ka.row (csT sgb stb Ab mb pb Bb kb qb Cb nb rb)
    replace tb := tb.rowF (cs := csT sgb stb Ab mb pb Bb kb qb Cb nb rb) frb hlb
    clear Ka
    replace Kc := Kc.far (show ba ≠ bc by omega) (csT sgb stb Ab mb pb Bb kb qb Cb nb rb)
    generalize wb.setRow ba (csT sgb stb Ab mb pb Bb kb qb Cb nb rb) = yb at *
    have x0 : yb.cell? ⟨w.heap.size + 1 + 1, 0, none⟩ = some (.int .i64 K) := K5.cell 0
    have x1 : yb.cell? ⟨w.heap.size + 1 + 1, 1, none⟩ = some (.int .i64 G) := K5.cell 1
    have x2 : yb.cell? ⟨w.heap.size + 1 + 1, 2, none⟩ = some (.int .u64 F) := K5.cell 2
    go_wp2_with (first | (with_reducible refine load_t rfl (.tmp 3) rfl w.heap.size rfl Kz ?_) | (with_reducible refine load_r rfl (.tmp 4) rfl (w.heap.size + 1) rfl Kv ?_) | (with_reducible refine load_t rfl (.tmp 9) rfl ba rfl Kb ?_) | (with_reducible refine load_r rfl (.tmp 11) rfl bc rfl Kc ?_))
    clear x0 x1 x2
    have hld := Kc.lt
    refine (refv (sg := sgb) (st := stb) (o := ob) (l := lb) (f' := fb) (y' := erb) (rroll_any sg st Av mv pv Bv kv qv Cv nv rv o l f F _ tv HO.out) Hb.out Yb.out).mono ?_
    rintro e' wd ⟨Ad, md, pd, Bd, kd, qd, Cd, nd, rd, rfl, td, frd, hb⟩
    replace Kz := Kz.later hb
    replace Kv := Kv.later hb
    replace K5 := K5.later hb
    replace Z6 := Z6.later hb
    replace Z7 := Z7.later hb
    replace tz := tz.later hb
    replace tv := tv.later hb
    replace Kc := Kc.later hb
    replace Kb := Kb.later hb
    replace tb := tb.later hb
    replace BB := Ge.trans BB hb
    clear hb
    go_upto_region 10 with (with_reducible refine store_r rfl (.tmp 11) (.tmp 40) rfl bc rfl rfl Kc ?_)
    replace BB := below_row BB (show w.heap.size ≤ bc by omega) (csT sgb stb Ad md pd Bd kd qd Cd nd rd)
    replace Kz := Kz.far (show bc ≠ w.heap.size by omega) (csT sgb stb Ad md pd Bd kd qd Cd nd rd)
    replace Kv := Kv.far (show bc ≠ w.heap.size + 1 by omega) (csT sgb stb Ad md pd Bd kd qd Cd nd rd)
    replace K5 := K5.far (show bc ≠ w.heap.size + 1 + 1 by omega) (csT sgb stb Ad md pd Bd kd qd Cd nd rd)
    replace Z6 := Z6.far (show bc ≠ w.heap.size + 1 + 1 + 1 by omega) (csT sgb stb Ad md pd Bd kd qd Cd nd rd)
    replace Z7 := Z7.far (show bc ≠ w.heap.size + 1 + 1 + 1 + 1 by omega) (csT sgb stb Ad md pd Bd kd qd Cd nd rd)
    replace tz := HZ0.out.later BB
    replace tv := HV0.out.later BB
    have Kd := Kc.row (csT sgb stb Ad md pd Bd kd qd Cd nd rd)
    replace td := td.rowF (cs := csT sgb stb Ad md pd Bd kd qd Cd nd rd) frd hld
    clear Kc
    replace Kb := Kb.far (show bc ≠ ba by omega) (csT sgb stb Ad md pd Bd kd qd Cd nd rd)
    replace tb := tb.rowF (cs := csT sgb stb Ad md pd Bd kd qd Cd nd rd) frb hlc
    generalize wd.setRow bc (csT sgb stb Ad md pd Bd kd qd Cd nd rd) = yd at *
    cases hc1 : rollT ⟨sg, st, o, l, f⟩ F with
    | none =>
      obtain rfl : erb = 10 := by rw [← Yb.out, hc1]; rfl
      have hZ := Hb.out
      rw [hc1] at hZ
      obtain ⟨rfl, rfl, rfl, rfl, rfl⟩ : 0 = sgb ∧ 0 = stb ∧ [] = ob ∧ [] = lb ∧ [] = fb := by injection hZ with h1 h2 h3 h4 h5; exact ⟨h1, h2, h3, h4, h5⟩
      have hm1 : mb ≤ maxLen := size_le tb.a (by simp)
      have hk1 : kb ≤ maxLen := size_le tb.b (by simp)
      have hn1 : nb ≤ maxLen := size_le tb.c (by simp)
      have I : Its yd [(ba, 28, csT 0 0 Ab mb pb Bb kb qb Cb nb rb), (bc, 32, csT 0 0 Ad md pd Bd kd qd Cd nd rd)] [(.i64, Ab, mb, []), (.i64, Bb, kb, []), (.u64, Cb, nb, []), (.i64, Ad, md, []), (.i64, Bd, kd, []), (.u64, Cd, nd, [])] yd := ((((Its.nil (Below.refl _ _)).cons Kd).cons Kb).tcons td).tcons tb
      have hne : Nonempty (In (Its yd [(ba, 28, csT 0 0 Ab mb pb Bb kb qb Cb nb rb), (bc, 32, csT 0 0 Ad md pd Bd kd qd Cd nd rd)] [(.i64, Ab, mb, []), (.i64, Bb, kb, []), (.u64, Cb, nb, []), (.i64, Ad, md, []), (.i64, Bd, kd, []), (.u64, Cd, nd, [])])) := ⟨⟨_, I⟩⟩
      have fa0 : ∀ j : In (Its yd [(ba, 28, csT 0 0 Ab mb pb Bb kb qb Cb nb rb), (bc, 32, csT 0 0 Ad md pd Bd kd qd Cd nd rd)] [(.i64, Ab, mb, []), (.i64, Bb, kb, []), (.u64, Cb, nb, []), (.i64, Ad, md, []), (.i64, Bd, kd, []), (.u64, Cd, nd, [])]), j.W.cell? ⟨ba, 0, none⟩ = some (.int .i64 0) := fun j => (j.h.at_ 0 rfl).cell 0
      have fa1 : ∀ j : In (Its yd [(ba, 28, csT 0 0 Ab mb pb Bb kb qb Cb nb rb), (bc, 32, csT 0 0 Ad md pd Bd kd qd Cd nd rd)] [(.i64, Ab, mb, []), (.i64, Bb, kb, []), (.u64, Cb, nb, []), (.i64, Ad, md, []), (.i64, Bd, kd, []), (.u64, Cd, nd, [])]), j.W.cell? ⟨ba, 1, none⟩ = some (.int .i64 0) := fun j => (j.h.at_ 0 rfl).cell 1
      have fa2 : ∀ j : In (Its yd [(ba, 28, csT 0 0 Ab mb pb Bb kb qb Cb nb rb), (bc, 32, csT 0 0 Ad md pd Bd kd qd Cd nd rd)] [(.i64, Ab, mb, []), (.i64, Bb, kb, []), (.u64, Cb, nb, []), (.i64, Ad, md, []), (.i64, Bd, kd, []), (.u64, Cd, nd, [])]), j.W.cell? ⟨ba, 2, none⟩ = some (.slice Ab mb pb) := fun j => (j.h.at_ 0 rfl).cell 2
      have fa3 : ∀ j : In (Its yd [(ba, 28, csT 0 0 Ab mb pb Bb kb qb Cb nb rb), (bc, 32, csT 0 0 Ad md pd Bd kd qd Cd nd rd)] [(.i64, Ab, mb, []), (.i64, Bb, kb, []), (.u64, Cb, nb, []), (.i64, Ad, md, []), (.i64, Bd, kd, []), (.u64, Cd, nd, [])]), j.W.cell? ⟨ba, 3, none⟩ = some (.slice Bb kb qb) := fun j => (j.h.at_ 0 rfl).cell 3
      have fa4 : ∀ j : In (Its yd [(ba, 28, csT 0 0 Ab mb pb Bb kb qb Cb nb rb), (bc, 32, csT 0 0 Ad md pd Bd kd qd Cd nd rd)] [(.i64, Ab, mb, []), (.i64, Bb, kb, []), (.u64, Cb, nb, []), (.i64, Ad, md, []), (.i64, Bd, kd, []), (.u64, Cd, nd, [])]), j.W.cell? ⟨ba, 4, none⟩ = some (.slice Cb nb rb) := fun j => (j.h.at_ 0 rfl).cell 4
      have fc0 : ∀ j : In (Its yd [(ba, 28, csT 0 0 Ab mb pb Bb kb qb Cb nb rb), (bc, 32, csT 0 0 Ad md pd Bd kd qd Cd nd rd)] [(.i64, Ab, mb, []), (.i64, Bb, kb, []), (.u64, Cb, nb, []), (.i64, Ad, md, []), (.i64, Bd, kd, []), (.u64, Cd, nd, [])]), j.W.cell? ⟨bc, 0, none⟩ = some (.int .i64 0) := fun j => (j.h.at_ 1 rfl).cell 0
      have fc1 : ∀ j : In (Its yd [(ba, 28, csT 0 0 Ab mb pb Bb kb qb Cb nb rb), (bc, 32, csT 0 0 Ad md pd Bd kd qd Cd nd rd)] [(.i64, Ab, mb, []), (.i64, Bb, kb, []), (.u64, Cb, nb, []), (.i64, Ad, md, []), (.i64, Bd, kd, []), (.u64, Cd, nd, [])]), j.W.cell? ⟨bc, 1, none⟩ = some (.int .i64 0) := fun j => (j.h.at_ 1 rfl).cell 1
      have fc2 : ∀ j : In (Its yd [(ba, 28, csT 0 0 Ab mb pb Bb kb qb Cb nb rb), (bc, 32, csT 0 0 Ad md pd Bd kd qd Cd nd rd)] [(.i64, Ab, mb, []), (.i64, Bb, kb, []), (.u64, Cb, nb, []), (.i64, Ad, md, []), (.i64, Bd, kd, []), (.u64, Cd, nd, [])]), j.W.cell? ⟨bc, 2, none⟩ = some (.slice Ad md pd) := fun j => (j.h.at_ 1 rfl).cell 2
      have fc3 : ∀ j : In (Its yd [(ba, 28, csT 0 0 Ab mb pb Bb kb qb Cb nb rb), (bc, 32, csT 0 0 Ad md pd Bd kd qd Cd nd rd)] [(.i64, Ab, mb, []), (.i64, Bb, kb, []), (.u64, Cb, nb, []), (.i64, Ad, md, []), (.i64, Bd, kd, []), (.u64, Cd, nd, [])]), j.W.cell? ⟨bc, 3, none⟩ = some (.slice Bd kd qd) := fun j => (j.h.at_ 1 rfl).cell 3
      have fc4 : ∀ j : In (Its yd [(ba, 28, csT 0 0 Ab mb pb Bb kb qb Cb nb rb), (bc, 32, csT 0 0 Ad md pd Bd kd qd Cd nd rd)] [(.i64, Ab, mb, []), (.i64, Bb, kb, []), (.u64, Cb, nb, []), (.i64, Ad, md, []), (.i64, Bd, kd, []), (.u64, Cd, nd, [])]), j.W.cell? ⟨bc, 4, none⟩ = some (.slice Cd nd rd) := fun j => (j.h.at_ 1 rfl).cell 4
      have Q2 := Lib.hid (fun W (hi : Its yd [(ba, 28, csT 0 0 Ab mb pb Bb kb qb Cb nb rb), (bc, 32, csT 0 0 Ad md pd Bd kd qd Cd nd rd)] [(.i64, Ab, mb, []), (.i64, Bb, kb, []), (.u64, Cb, nb, []), (.i64, Ad, md, []), (.i64, Bd, kd, []), (.u64, Cd, nd, [])] W) => same_yes 0 0 Ab mb pb Bb kb qb Cb nb rb Ad md pd Bd kd qd Cd nd rd [] [] [] W (hi.tab 0 rfl rfl rfl) (hi.tab 3 rfl rfl rfl) hm1 hk1 hn1)
      go_wp2_with fail
      refine region_class (Its yd [(ba, 28, csT 0 0 Ab mb pb Bb kb qb Cb nb rb), (bc, 32, csT 0 0 Ad md pd Bd kd qd Cd nd rd)] [(.i64, Ab, mb, []), (.i64, Bb, kb, []), (.u64, Cb, nb, []), (.i64, Ad, md, []), (.i64, Bd, kd, []), (.u64, Cd, nd, [])]) (by kernel_rfl) (by kernel_rfl) I.drawn ?_
      repeat (go_big_quiet_step (first
        | (go_at_call 12; with_reducible exact class_call _ (fun hi => its_ge hi (ref_any 0 0 Ab mb pb Bb kb qb Cb nb rb _)))
        | (go_at_call 11; with_reducible exact class_call _ (fun hi => its_ge hi (Q2.out _ hi)))))
      refine wpQuiet_nil ?_
      rintro _ ⟨j, rfl⟩
      have hb := j.h.b
      clear fa0 fa1 fa2 fa3 fa4 fc0 fc1 fc2 fc3 fc4 Q2 I hne
      replace Kz := Kz.later hb
      replace Kv := Kv.later hb
      replace K5 := K5.later hb
      replace Z6 := Z6.later hb
      replace Z7 := Z7.later hb
      replace tz := tz.later hb
      replace tv := tv.later hb
      replace Kb := Kb.later hb
      replace tb := tb.later hb
      replace Kd := Kd.later hb
      replace td := td.later hb
      replace BB := Ge.trans BB hb
      clear hb
      generalize j.W = wt at *
      clear j
      go_wp2_with fail
      refine FreeC.wp_freeC (wl [some (.agg #[.int .i64 sg, .int .i64 st, .slice Az mz pz, .slice Bz kz qz, .slice Cz nz rz]), some (.agg #[.int .i64 sg, .int .i64 st, .slice Av mv pv, .slice Bv kv qv, .slice Cv nv rv]), none, none, some (.bool true)]) (Tw wt (w.heap.size + 1 + 1 + 1) (w.heap.size + 1 + 1 + 1 + 1) (csT sg st Az mz pz Bz kz qz Cz nz rz) (csT sg st Av mv pv Bv kv qv Cv nv rv)) (by kernel_rfl) (by kernel_rfl) (Tw.start Z6 Z7 (by omega)) ?_ ?_
      · refine ⟨?_, ?_, ?_, ?_, ?_, trivial⟩
        · intro listed A0 W hA hno hr K hK
          refine wp_load_row _ (.tmp 3) rfl w.heap.size ((hA.kept 3 (Free.not_dst (by kernel_rfl))).trans rfl) _ (csT sg st Az mz pz Bz kz qz Cz nz rz) (0, 0) _ ((hA.c.r w.heap.size (by omega) (by omega)).trans Kz) Try.underlying28 rfl info_t ?_
          exact hK _ _ (hA.c.same 0 (by omega) (by omega)) rfl (fun j u _ _ hu => hu)
        · intro listed A0 W hA hno hr K hK
          refine wp_load_row _ (.tmp 4) rfl (w.heap.size + 1) ((hA.kept 4 (Free.not_dst (by kernel_rfl))).trans rfl) _ (csT sg st Av mv pv Bv kv qv Cv nv rv) (0, 0) _ ((hA.c.r (w.heap.size + 1) (by omega) (by omega)).trans Kv) Try.underlying32 rfl info_r ?_
          exact hK _ _ (hA.c.same 1 (by omega) (by omega)) rfl (fun j u _ _ hu => hu)
        · intro listed A0 W hA hno hr K hK
          have hsl := hA.size
          simp at hsl
          refine wp_store_row _ (.tmp 6) (.tmp 72) rfl (w.heap.size + 1 + 1 + 1) (csT sg st Az mz pz Bz kz qz Cz nz rz) ((hA.kept 6 (Free.not_dst (by kernel_rfl))).trans rfl) (hA.val 0 _ rfl (hr ⟨0, .data⟩ (by simp) rfl)) _ _ (hA.c.p (not_listed (by omega) hno)) info_t rfl (csT_one _ _ _ _ _ _ _ _ _ _ _) ?_
          exact hK undef _ (hA.c.st6 (by omega) (by omega) (not_listed (by omega) hno)) trivial (fun j u _ _ hu => wl_any hu)
        · intro listed A0 W hA hno hr K hK
          have hsl := hA.size
          simp at hsl
          refine wp_store_row _ (.tmp 7) (.tmp 73) rfl (w.heap.size + 1 + 1 + 1 + 1) (csT sg st Av mv pv Bv kv qv Cv nv rv) ((hA.kept 7 (Free.not_dst (by kernel_rfl))).trans rfl) (hA.val 1 _ rfl (hr ⟨1, .data⟩ (by simp) rfl)) _ _ (hA.c.q (not_listed (by omega) hno)) info_r rfl (csT_one _ _ _ _ _ _ _ _ _ _ _) ?_
          exact hK undef _ (hA.c.st7 (by omega) (by omega) (not_listed (by omega) hno)) trivial (fun j u _ _ hu => wl_any hu)
        · intro listed A0 W hA hno hr K hK
          simp [go_sem]
          exact hK _ _ (hA.c.same 4 (by omega) (by omega)) rfl (fun j u _ _ hu => hu)
      · intro A0 W hA
        have E6 := hA.c.p' rfl
        have E7 := hA.c.q' rfl
        have BE := Ge.trans2 BB (hA.c.bel w.heap.size (by omega) (by omega))
        have s6 : A0.tmps.getD 6 undef = .pointer (some ⟨w.heap.size + 1 + 1 + 1, 0, none⟩) := (hA.kept 6 (Free.not_dst (by kernel_rfl))).trans rfl
        have s7 : A0.tmps.getD 7 undef = .pointer (some ⟨w.heap.size + 1 + 1 + 1 + 1, 0, none⟩) := (hA.kept 7 (Free.not_dst (by kernel_rfl))).trans rfl
        have s8 : A0.tmps.getD 8 undef = .bool true := hA.val 4 _ rfl rfl
        have hrr := hA.c.r
        have hss := hA.c.s
        have hde := hA.defers
        clear hA
        obtain ⟨tm, de⟩ := A0
        simp only at s6 s7 s8 hde
        subst hde
        go_wp2_with fail
        exact bodyPost_ret (res_do rfl _ _ (w.heap.size + 1 + 1 + 1) (w.heap.size + 1 + 1 + 1 + 1) s6 s7 s8 E6 E7) rfl ⟨sg, st, Az, mz, pz, Bz, kz, qz, Cz, nz, rz, Av, mv, pv, Bv, kv, qv, Cv, nv, rv, o, l, f, rfl, HO.out, HZ0.out.later BE, HV0.out.later BE, hmp, (fun _ _ => ⟨id, id⟩), BE⟩
    | some u =>
      obtain rfl : erb = 0 := by rw [← Yb.out, hc1]; rfl
      obtain rfl : u = ⟨sgb, stb, ob, lb, fb⟩ := by have := Hb.out; rw [hc1] at this; exact this
      have hu : Hid (okP ⟨sgb, stb, ob, lb, fb⟩) := Lib.hid (roll_ok HO.out hc1)
      obtain ⟨hm1, hk1, hn1⟩ := (ok_full hu.out tb).2.2.2.2
      have I : Its yd [(ba, 28, csT sgb stb Ab mb pb Bb kb qb Cb nb rb), (bc, 32, csT sgb stb Ad md pd Bd kd qd Cd nd rd)] [(.i64, Ab, mb, ob), (.i64, Bb, kb, lb), (.u64, Cb, nb, fb), (.i64, Ad, md, ob), (.i64, Bd, kd, lb), (.u64, Cd, nd, fb)] yd := ((((Its.nil (Below.refl _ _)).cons Kd).cons Kb).tcons td).tcons tb
      have hne : Nonempty (In (Its yd [(ba, 28, csT sgb stb Ab mb pb Bb kb qb Cb nb rb), (bc, 32, csT sgb stb Ad md pd Bd kd qd Cd nd rd)] [(.i64, Ab, mb, ob), (.i64, Bb, kb, lb), (.u64, Cb, nb, fb), (.i64, Ad, md, ob), (.i64, Bd, kd, lb), (.u64, Cd, nd, fb)])) := ⟨⟨_, I⟩⟩
      have fa0 : ∀ j : In (Its yd [(ba, 28, csT sgb stb Ab mb pb Bb kb qb Cb nb rb), (bc, 32, csT sgb stb Ad md pd Bd kd qd Cd nd rd)] [(.i64, Ab, mb, ob), (.i64, Bb, kb, lb), (.u64, Cb, nb, fb), (.i64, Ad, md, ob), (.i64, Bd, kd, lb), (.u64, Cd, nd, fb)]), j.W.cell? ⟨ba, 0, none⟩ = some (.int .i64 sgb) := fun j => (j.h.at_ 0 rfl).cell 0
      have fa1 : ∀ j : In (Its yd [(ba, 28, csT sgb stb Ab mb pb Bb kb qb Cb nb rb), (bc, 32, csT sgb stb Ad md pd Bd kd qd Cd nd rd)] [(.i64, Ab, mb, ob), (.i64, Bb, kb, lb), (.u64, Cb, nb, fb), (.i64, Ad, md, ob), (.i64, Bd, kd, lb), (.u64, Cd, nd, fb)]), j.W.cell? ⟨ba, 1, none⟩ = some (.int .i64 stb) := fun j => (j.h.at_ 0 rfl).cell 1
      have fa2 : ∀ j : In (Its yd [(ba, 28, csT sgb stb Ab mb pb Bb kb qb Cb nb rb), (bc, 32, csT sgb stb Ad md pd Bd kd qd Cd nd rd)] [(.i64, Ab, mb, ob), (.i64, Bb, kb, lb), (.u64, Cb, nb, fb), (.i64, Ad, md, ob), (.i64, Bd, kd, lb), (.u64, Cd, nd, fb)]), j.W.cell? ⟨ba, 2, none⟩ = some (.slice Ab mb pb) := fun j => (j.h.at_ 0 rfl).cell 2
      have fa3 : ∀ j : In (Its yd [(ba, 28, csT sgb stb Ab mb pb Bb kb qb Cb nb rb), (bc, 32, csT sgb stb Ad md pd Bd kd qd Cd nd rd)] [(.i64, Ab, mb, ob), (.i64, Bb, kb, lb), (.u64, Cb, nb, fb), (.i64, Ad, md, ob), (.i64, Bd, kd, lb), (.u64, Cd, nd, fb)]), j.W.cell? ⟨ba, 3, none⟩ = some (.slice Bb kb qb) := fun j => (j.h.at_ 0 rfl).cell 3
      have fa4 : ∀ j : In (Its yd [(ba, 28, csT sgb stb Ab mb pb Bb kb qb Cb nb rb), (bc, 32, csT sgb stb Ad md pd Bd kd qd Cd nd rd)] [(.i64, Ab, mb, ob), (.i64, Bb, kb, lb), (.u64, Cb, nb, fb), (.i64, Ad, md, ob), (.i64, Bd, kd, lb), (.u64, Cd, nd, fb)]), j.W.cell? ⟨ba, 4, none⟩ = some (.slice Cb nb rb) := fun j => (j.h.at_ 0 rfl).cell 4
      have fc0 : ∀ j : In (Its yd [(ba, 28, csT sgb stb Ab mb pb Bb kb qb Cb nb rb), (bc, 32, csT sgb stb Ad md pd Bd kd qd Cd nd rd)] [(.i64, Ab, mb, ob), (.i64, Bb, kb, lb), (.u64, Cb, nb, fb), (.i64, Ad, md, ob), (.i64, Bd, kd, lb), (.u64, Cd, nd, fb)]), j.W.cell? ⟨bc, 0, none⟩ = some (.int .i64 sgb) := fun j => (j.h.at_ 1 rfl).cell 0
      have fc1 : ∀ j : In (Its yd [(ba, 28, csT sgb stb Ab mb pb Bb kb qb Cb nb rb), (bc, 32, csT sgb stb Ad md pd Bd kd qd Cd nd rd)] [(.i64, Ab, mb, ob), (.i64, Bb, kb, lb), (.u64, Cb, nb, fb), (.i64, Ad, md, ob), (.i64, Bd, kd, lb), (.u64, Cd, nd, fb)]), j.W.cell? ⟨bc, 1, none⟩ = some (.int .i64 stb) := fun j => (j.h.at_ 1 rfl).cell 1
      have fc2 : ∀ j : In (Its yd [(ba, 28, csT sgb stb Ab mb pb Bb kb qb Cb nb rb), (bc, 32, csT sgb stb Ad md pd Bd kd qd Cd nd rd)] [(.i64, Ab, mb, ob), (.i64, Bb, kb, lb), (.u64, Cb, nb, fb), (.i64, Ad, md, ob), (.i64, Bd, kd, lb), (.u64, Cd, nd, fb)]), j.W.cell? ⟨bc, 2, none⟩ = some (.slice Ad md pd) := fun j => (j.h.at_ 1 rfl).cell 2
      have fc3 : ∀ j : In (Its yd [(ba, 28, csT sgb stb Ab mb pb Bb kb qb Cb nb rb), (bc, 32, csT sgb stb Ad md pd Bd kd qd Cd nd rd)] [(.i64, Ab, mb, ob), (.i64, Bb, kb, lb), (.u64, Cb, nb, fb), (.i64, Ad, md, ob), (.i64, Bd, kd, lb), (.u64, Cd, nd, fb)]), j.W.cell? ⟨bc, 3, none⟩ = some (.slice Bd kd qd) := fun j => (j.h.at_ 1 rfl).cell 3
      have fc4 : ∀ j : In (Its yd [(ba, 28, csT sgb stb Ab mb pb Bb kb qb Cb nb rb), (bc, 32, csT sgb stb Ad md pd Bd kd qd Cd nd rd)] [(.i64, Ab, mb, ob), (.i64, Bb, kb, lb), (.u64, Cb, nb, fb), (.i64, Ad, md, ob), (.i64, Bd, kd, lb), (.u64, Cd, nd, fb)]), j.W.cell? ⟨bc, 4, none⟩ = some (.slice Cd nd rd) := fun j => (j.h.at_ 1 rfl).cell 4
      have Q2 := Lib.hid (fun W (hi : Its yd [(ba, 28, csT sgb stb Ab mb pb Bb kb qb Cb nb rb), (bc, 32, csT sgb stb Ad md pd Bd kd qd Cd nd rd)] [(.i64, Ab, mb, ob), (.i64, Bb, kb, lb), (.u64, Cb, nb, fb), (.i64, Ad, md, ob), (.i64, Bd, kd, lb), (.u64, Cd, nd, fb)] W) => same_yes sgb stb Ab mb pb Bb kb qb Cb nb rb Ad md pd Bd kd qd Cd nd rd ob lb fb W (hi.tab 0 rfl rfl rfl) (hi.tab 3 rfl rfl rfl) hm1 hk1 hn1)
      go_wp2_with fail
      refine region_class (Its yd [(ba, 28, csT sgb stb Ab mb pb Bb kb qb Cb nb rb), (bc, 32, csT sgb stb Ad md pd Bd kd qd Cd nd rd)] [(.i64, Ab, mb, ob), (.i64, Bb, kb, lb), (.u64, Cb, nb, fb), (.i64, Ad, md, ob), (.i64, Bd, kd, lb), (.u64, Cd, nd, fb)]) (by kernel_rfl) (by kernel_rfl) I.drawn ?_
      repeat (go_big_quiet_step (first
        | (go_at_call 12; with_reducible exact class_call _ (fun hi => its_ge hi (ref_any sgb stb Ab mb pb Bb kb qb Cb nb rb _)))
        | (go_at_call 11; with_reducible exact class_call _ (fun hi => its_ge hi (Q2.out _ hi)))))
      refine wpQuiet_nil ?_
      rintro _ ⟨j, rfl⟩
      have hb := j.h.b
      clear fa0 fa1 fa2 fa3 fa4 fc0 fc1 fc2 fc3 fc4 Q2 I hne
      replace Kz := Kz.later hb
      replace Kv := Kv.later hb
      replace K5 := K5.later hb
      replace Z6 := Z6.later hb
      replace Z7 := Z7.later hb
      replace tz := tz.later hb
      replace tv := tv.later hb
      replace Kb := Kb.later hb
      replace tb := tb.later hb
      replace Kd := Kd.later hb
      replace td := td.later hb
      replace BB := Ge.trans BB hb
      clear hb
      generalize j.W = wt at *
      clear j
      go_wp2_with fail
      refine FreeC.wp_freeC (wl [some (.agg #[.int .i64 sgb, .int .i64 stb, .slice Ab mb pb, .slice Bb kb qb, .slice Cb nb rb]), some (.agg #[.int .i64 sgb, .int .i64 stb, .slice Ad md pd, .slice Bd kd qd, .slice Cd nd rd]), none, none, some (.bool true)]) (Tw wt (w.heap.size + 1 + 1 + 1) (w.heap.size + 1 + 1 + 1 + 1) (csT sgb stb Ab mb pb Bb kb qb Cb nb rb) (csT sgb stb Ad md pd Bd kd qd Cd nd rd)) (by kernel_rfl) (by kernel_rfl) (Tw.start Z6 Z7 (by omega)) ?_ ?_
      · refine ⟨?_, ?_, ?_, ?_, ?_, trivial⟩
        · intro listed A0 W hA hno hr K hK
          refine wp_load_row _ (.tmp 9) rfl ba ((hA.kept 9 (Free.not_dst (by kernel_rfl))).trans rfl) _ (csT sgb stb Ab mb pb Bb kb qb Cb nb rb) (0, 0) _ ((hA.c.r ba (by omega) (by omega)).trans Kb) Try.underlying28 rfl info_t ?_
          exact hK _ _ (hA.c.same 0 (by omega) (by omega)) rfl (fun j u _ _ hu => hu)
        · intro listed A0 W hA hno hr K hK
          refine wp_load_row _ (.tmp 11) rfl bc ((hA.kept 11 (Free.not_dst (by kernel_rfl))).trans rfl) _ (csT sgb stb Ad md pd Bd kd qd Cd nd rd) (0, 0) _ ((hA.c.r bc (by omega) (by omega)).trans Kd) Try.underlying32 rfl info_r ?_
          exact hK _ _ (hA.c.same 1 (by omega) (by omega)) rfl (fun j u _ _ hu => hu)
        · intro listed A0 W hA hno hr K hK
          have hsl := hA.size
          simp at hsl
          refine wp_store_row _ (.tmp 6) (.tmp 74) rfl (w.heap.size + 1 + 1 + 1) (csT sgb stb Ab mb pb Bb kb qb Cb nb rb) ((hA.kept 6 (Free.not_dst (by kernel_rfl))).trans rfl) (hA.val 0 _ rfl (hr ⟨0, .data⟩ (by simp) rfl)) _ _ (hA.c.p (not_listed (by omega) hno)) info_t rfl (csT_one _ _ _ _ _ _ _ _ _ _ _) ?_
          exact hK undef _ (hA.c.st6 (by omega) (by omega) (not_listed (by omega) hno)) trivial (fun j u _ _ hu => wl_any hu)
        · intro listed A0 W hA hno hr K hK
          have hsl := hA.size
          simp at hsl
          refine wp_store_row _ (.tmp 7) (.tmp 75) rfl (w.heap.size + 1 + 1 + 1 + 1) (csT sgb stb Ad md pd Bd kd qd Cd nd rd) ((hA.kept 7 (Free.not_dst (by kernel_rfl))).trans rfl) (hA.val 1 _ rfl (hr ⟨1, .data⟩ (by simp) rfl)) _ _ (hA.c.q (not_listed (by omega) hno)) info_r rfl (csT_one _ _ _ _ _ _ _ _ _ _ _) ?_
          exact hK undef _ (hA.c.st7 (by omega) (by omega) (not_listed (by omega) hno)) trivial (fun j u _ _ hu => wl_any hu)
        · intro listed A0 W hA hno hr K hK
          simp [go_sem]
          exact hK _ _ (hA.c.same 4 (by omega) (by omega)) rfl (fun j u _ _ hu => hu)
      · intro A0 W hA
        have E6 := hA.c.p' rfl
        have E7 := hA.c.q' rfl
        have BE := Ge.trans2 BB (hA.c.bel w.heap.size (by omega) (by omega))
        have s6 : A0.tmps.getD 6 undef = .pointer (some ⟨w.heap.size + 1 + 1 + 1, 0, none⟩) := (hA.kept 6 (Free.not_dst (by kernel_rfl))).trans rfl
        have s7 : A0.tmps.getD 7 undef = .pointer (some ⟨w.heap.size + 1 + 1 + 1 + 1, 0, none⟩) := (hA.kept 7 (Free.not_dst (by kernel_rfl))).trans rfl
        have s8 : A0.tmps.getD 8 undef = .bool true := hA.val 4 _ rfl rfl
        have hrr := hA.c.r
        have hss := hA.c.s
        have hde := hA.defers
        clear hA
        obtain ⟨tm, de⟩ := A0
        simp only at s6 s7 s8 hde
        subst hde
        go_wp2_with fail
        exact bodyPost_ret (res_do rfl _ _ (w.heap.size + 1 + 1 + 1) (w.heap.size + 1 + 1 + 1 + 1) s6 s7 s8 E6 E7) rfl ⟨sgb, stb, Ab, mb, pb, Bb, kb, qb, Cb, nb, rb, Ad, md, pd, Bd, kd, qd, Cd, nd, rd, ob, lb, fb, rfl, hu.out, tb.sameF frb hss (fun g hg => hrr g (by omega) (by omega)), td.sameF frd hss (fun g hg => hrr g (by omega) (by omega)), mpb, (fun g hg => ⟨fun _ => nb3_of hu.out tb frb (by omega), fun _ => nb3_of hu.out td frd (by omega)⟩), BE⟩
  have q0 : (kk == 0) = false := by simp [h0]
  by_cases h1 : kk = 1
  · subst h1
    obtain ⟨⟨sge, ste, oe, le, fe⟩, He⟩ : ∃ u, Hid (tabOf (dropT ⟨sg, st, o, l, f⟩ G) = u) := ⟨_, Lib.hid rfl⟩
    obtain ⟨ere, Ye⟩ : ∃ y, Hid (errOf (dropT ⟨sg, st, o, l, f⟩ G) 1 = y) := ⟨_, Lib.hid rfl⟩
    have x0 : yc.cell? ⟨w.heap.size + 1 + 1, 0, none⟩ = some (.int .i64 K) := K5.cell 0
    have x1 : yc.cell? ⟨w.heap.size + 1 + 1, 1, none⟩ = some (.int .i64 G) := K5.cell 1
    have x2 : yc.cell? ⟨w.heap.size + 1 + 1, 2, none⟩ = some (.int .u64 F) := K5.cell 2
    go_wp2_with (first | (with_reducible refine load_t rfl (.tmp 3) rfl w.heap.size rfl Kz ?_) | (with_reducible refine load_r rfl (.tmp 4) rfl (w.heap.size + 1) rfl Kv ?_) | (with_reducible refine load_t rfl (.tmp 9) rfl ba rfl Ka ?_) | (with_reducible refine load_r rfl (.tmp 11) rfl bc rfl Kc ?_))
    clear x0 x1 x2
    clear ta tc fra frc mpa
    have hlc := Kc.lt
    have hle := Ka.lt
    refine (resv (sg := sge) (st := ste) (o := oe) (l := le) (f' := fe) (y' := ere) (drop_any sg st Az mz pz Bz kz qz Cz nz rz o l f G _ tz HO.out) He.out Ye.out).mono ?_
    rintro e' we ⟨Ae, me, pe, Be, ke, qe, Ce, ne, re, rfl, te, mpe, fre, hb⟩
    replace Kz := Kz.later hb
    replace Kv := Kv.later hb
    replace K5 := K5.later hb
    replace Z6 := Z6.later hb
    replace Z7 := Z7.later hb
    replace tz := tz.later hb
    replace tv := tv.later hb
    replace Ka := Ka.later hb
    replace Kc := Kc.later hb
    replace BB := Ge.trans BB hb
    clear hb
    go_upto_region 9 with (with_reducible refine store_t rfl (.tmp 9) (.tmp 49) rfl ba rfl rfl Ka ?_)
    replace BB := below_row BB (show w.heap.size ≤ ba by omega) (csT sge ste Ae me pe Be ke qe Ce ne re)
    replace Kz := Kz.far (show ba ≠ w.heap.size by omega) (csT sge ste Ae me pe Be ke qe Ce ne re)
    replace Kv := Kv.far (show ba ≠ w.heap.size + 1 by omega) (csT sge ste Ae me pe Be ke qe Ce ne re)
    replace K5 := K5.far (show ba ≠ w.heap.size + 1 + 1 by omega) (csT sge ste Ae me pe Be ke qe Ce ne re)
    replace Z6 := Z6.far (show ba ≠ w.heap.size + 1 + 1 + 1 by omega) (csT sge ste Ae me pe Be ke qe Ce ne re)
    replace Z7 := Z7.far (show ba ≠ w.heap.size + 1 + 1 + 1 + 1 by omega) (csT sge ste Ae me pe Be ke qe Ce ne re)
    replace tz := HZ0.out.later BB
    replace tv := HV0.out.later BB
    have Ke := Ka.row (csT sge ste Ae me pe Be ke qe Ce ne re)
    replace te := te.rowF (cs := csT sge ste Ae me pe Be ke qe Ce ne re) fre hle
    clear Ka
    replace Kc := Kc.far (show ba ≠ bc by omega) (csT sge ste Ae me pe Be ke qe Ce ne re)
    generalize we.setRow ba (csT sge ste Ae me pe Be ke qe Ce ne re) = ye at *
    have x0 : ye.cell? ⟨w.heap.size + 1 + 1, 0, none⟩ = some (.int .i64 K) := K5.cell 0
    have x1 : ye.cell? ⟨w.heap.size + 1 + 1, 1, none⟩ = some (.int .i64 G) := K5.cell 1
    have x2 : ye.cell? ⟨w.heap.size + 1 + 1, 2, none⟩ = some (.int .u64 F) := K5.cell 2
    go_wp2_with (first | (with_reducible refine load_t rfl (.tmp 3) rfl w.heap.size rfl Kz ?_) | (with_reducible refine load_r rfl (.tmp 4) rfl (w.heap.size + 1) rfl Kv ?_) | (with_reducible refine load_t rfl (.tmp 9) rfl ba rfl Ke ?_) | (with_reducible refine load_r rfl (.tmp 11) rfl bc rfl Kc ?_))
    clear x0 x1 x2
    have hlg := Kc.lt
    refine (refv (sg := sge) (st := ste) (o := oe) (l := le) (f' := fe) (y' := ere) (rdrop_any sg st Av mv pv Bv kv qv Cv nv rv o l f G _ tv HO.out) He.out Ye.out).mono ?_
    rintro e' wg ⟨Ag, mg, pg, Bg, kg, qg, Cg, ng, rg, rfl, tg, frg, hb⟩
    replace Kz := Kz.later hb
    replace Kv := Kv.later hb
    replace K5 := K5.later hb
    replace Z6 := Z6.later hb
    replace Z7 := Z7.later hb
    replace tz := tz.later hb
    replace tv := tv.later hb
    replace Kc := Kc.later hb
    replace Ke := Ke.later hb
    replace te := te.later hb
    replace BB := Ge.trans BB hb
    clear hb
    go_upto_region 10 with (with_reducible refine store_r rfl (.tmp 11) (.tmp 56) rfl bc rfl rfl Kc ?_)
    replace BB := below_row BB (show w.heap.size ≤ bc by omega) (csT sge ste Ag mg pg Bg kg qg Cg ng rg)
    replace Kz := Kz.far (show bc ≠ w.heap.size by omega) (csT sge ste Ag mg pg Bg kg qg Cg ng rg)
    replace Kv := Kv.far (show bc ≠ w.heap.size + 1 by omega) (csT sge ste Ag mg pg Bg kg qg Cg ng rg)
    replace K5 := K5.far (show bc ≠ w.heap.size + 1 + 1 by omega) (csT sge ste Ag mg pg Bg kg qg Cg ng rg)
    replace Z6 := Z6.far (show bc ≠ w.heap.size + 1 + 1 + 1 by omega) (csT sge ste Ag mg pg Bg kg qg Cg ng rg)
    replace Z7 := Z7.far (show bc ≠ w.heap.size + 1 + 1 + 1 + 1 by omega) (csT sge ste Ag mg pg Bg kg qg Cg ng rg)
    replace tz := HZ0.out.later BB
    replace tv := HV0.out.later BB
    have Kg := Kc.row (csT sge ste Ag mg pg Bg kg qg Cg ng rg)
    replace tg := tg.rowF (cs := csT sge ste Ag mg pg Bg kg qg Cg ng rg) frg hlg
    clear Kc
    replace Ke := Ke.far (show bc ≠ ba by omega) (csT sge ste Ag mg pg Bg kg qg Cg ng rg)
    replace te := te.rowF (cs := csT sge ste Ag mg pg Bg kg qg Cg ng rg) fre hlc
    generalize wg.setRow bc (csT sge ste Ag mg pg Bg kg qg Cg ng rg) = yg at *
    cases hc1 : dropT ⟨sg, st, o, l, f⟩ G with
    | none =>
      obtain rfl : ere = 1 := by rw [← Ye.out, hc1]; rfl
      have hZ := He.out
      rw [hc1] at hZ
      obtain ⟨rfl, rfl, rfl, rfl, rfl⟩ : 0 = sge ∧ 0 = ste ∧ [] = oe ∧ [] = le ∧ [] = fe := by injection hZ with h1 h2 h3 h4 h5; exact ⟨h1, h2, h3, h4, h5⟩
      have hm1 : me ≤ maxLen := size_le te.a (by simp)
      have hk1 : ke ≤ maxLen := size_le te.b (by simp)
      have hn1 : ne ≤ maxLen := size_le te.c (by simp)
      have I : Its yg [(ba, 28, csT 0 0 Ae me pe Be ke qe Ce ne re), (bc, 32, csT 0 0 Ag mg pg Bg kg qg Cg ng rg)] [(.i64, Ae, me, []), (.i64, Be, ke, []), (.u64, Ce, ne, []), (.i64, Ag, mg, []), (.i64, Bg, kg, []), (.u64, Cg, ng, [])] yg := ((((Its.nil (Below.refl _ _)).cons Kg).cons Ke).tcons tg).tcons te
      have hne : Nonempty (In (Its yg [(ba, 28, csT 0 0 Ae me pe Be ke qe Ce ne re), (bc, 32, csT 0 0 Ag mg pg Bg kg qg Cg ng rg)] [(.i64, Ae, me, []), (.i64, Be, ke, []), (.u64, Ce, ne, []), (.i64, Ag, mg, []), (.i64, Bg, kg, []), (.u64, Cg, ng, [])])) := ⟨⟨_, I⟩⟩
      have fa0 : ∀ j : In (Its yg [(ba, 28, csT 0 0 Ae me pe Be ke qe Ce ne re), (bc, 32, csT 0 0 Ag mg pg Bg kg qg Cg ng rg)] [(.i64, Ae, me, []), (.i64, Be, ke, []), (.u64, Ce, ne, []), (.i64, Ag, mg, []), (.i64, Bg, kg, []), (.u64, Cg, ng, [])]), j.W.cell? ⟨ba, 0, none⟩ = some (.int .i64 0) := fun j => (j.h.at_ 0 rfl).cell 0
      have fa1 : ∀ j : In (Its yg [(ba, 28, csT 0 0 Ae me pe Be ke qe Ce ne re), (bc, 32, csT 0 0 Ag mg pg Bg kg qg Cg ng rg)] [(.i64, Ae, me, []), (.i64, Be, ke, []), (.u64, Ce, ne, []), (.i64, Ag, mg, []), (.i64, Bg, kg, []), (.u64, Cg, ng, [])]), j.W.cell? ⟨ba, 1, none⟩ = some (.int .i64 0) := fun j => (j.h.at_ 0 rfl).cell 1
      have fa2 : ∀ j : In (Its yg [(ba, 28, csT 0 0 Ae me pe Be ke qe Ce ne re), (bc, 32, csT 0 0 Ag mg pg Bg kg qg Cg ng rg)] [(.i64, Ae, me, []), (.i64, Be, ke, []), (.u64, Ce, ne, []), (.i64, Ag, mg, []), (.i64, Bg, kg, []), (.u64, Cg, ng, [])]), j.W.cell? ⟨ba, 2, none⟩ = some (.slice Ae me pe) := fun j => (j.h.at_ 0 rfl).cell 2
      have fa3 : ∀ j : In (Its yg [(ba, 28, csT 0 0 Ae me pe Be ke qe Ce ne re), (bc, 32, csT 0 0 Ag mg pg Bg kg qg Cg ng rg)] [(.i64, Ae, me, []), (.i64, Be, ke, []), (.u64, Ce, ne, []), (.i64, Ag, mg, []), (.i64, Bg, kg, []), (.u64, Cg, ng, [])]), j.W.cell? ⟨ba, 3, none⟩ = some (.slice Be ke qe) := fun j => (j.h.at_ 0 rfl).cell 3
      have fa4 : ∀ j : In (Its yg [(ba, 28, csT 0 0 Ae me pe Be ke qe Ce ne re), (bc, 32, csT 0 0 Ag mg pg Bg kg qg Cg ng rg)] [(.i64, Ae, me, []), (.i64, Be, ke, []), (.u64, Ce, ne, []), (.i64, Ag, mg, []), (.i64, Bg, kg, []), (.u64, Cg, ng, [])]), j.W.cell? ⟨ba, 4, none⟩ = some (.slice Ce ne re) := fun j => (j.h.at_ 0 rfl).cell 4
      have fc0 : ∀ j : In (Its yg [(ba, 28, csT 0 0 Ae me pe Be ke qe Ce ne re), (bc, 32, csT 0 0 Ag mg pg Bg kg qg Cg ng rg)] [(.i64, Ae, me, []), (.i64, Be, ke, []), (.u64, Ce, ne, []), (.i64, Ag, mg, []), (.i64, Bg, kg, []), (.u64, Cg, ng, [])]), j.W.cell? ⟨bc, 0, none⟩ = some (.int .i64 0) := fun j => (j.h.at_ 1 rfl).cell 0
      have fc1 : ∀ j : In (Its yg [(ba, 28, csT 0 0 Ae me pe Be ke qe Ce ne re), (bc, 32, csT 0 0 Ag mg pg Bg kg qg Cg ng rg)] [(.i64, Ae, me, []), (.i64, Be, ke, []), (.u64, Ce, ne, []), (.i64, Ag, mg, []), (.i64, Bg, kg, []), (.u64, Cg, ng, [])]), j.W.cell? ⟨bc, 1, none⟩ = some (.int .i64 0) := fun j => (j.h.at_ 1 rfl).cell 1
      have fc2 : ∀ j : In (Its yg [(ba, 28, csT 0 0 Ae me pe Be ke qe Ce ne re), (bc, 32, csT 0 0 Ag mg pg Bg kg qg Cg ng rg)] [(.i64, Ae, me, []), (.i64, Be, ke, []), (.u64, Ce, ne, []), (.i64, Ag, mg, []), (.i64, Bg, kg, []), (.u64, Cg, ng, [])]), j.W.cell? ⟨bc, 2, none⟩ = some (.slice Ag mg pg) := fun j => (j.h.at_ 1 rfl).cell 2
      have fc3 : ∀ j : In (Its yg [(ba, 28, csT 0 0 Ae me pe Be ke qe Ce ne re), (bc, 32, csT 0 0 Ag mg pg Bg kg qg Cg ng rg)] [(.i64, Ae, me, []), (.i64, Be, ke, []), (.u64, Ce, ne, []), (.i64, Ag, mg, []), (.i64, Bg, kg, []), (.u64, Cg, ng, [])]), j.W.cell? ⟨bc, 3, none⟩ = some (.slice Bg kg qg) := fun j => (j.h.at_ 1 rfl).cell 3
      have fc4 : ∀ j : In (Its yg [(ba, 28, csT 0 0 Ae me pe Be ke qe Ce ne re), (bc, 32, csT 0 0 Ag mg pg Bg kg qg Cg ng rg)] [(.i64, Ae, me, []), (.i64, Be, ke, []), (.u64, Ce, ne, []), (.i64, Ag, mg, []), (.i64, Bg, kg, []), (.u64, Cg, ng, [])]), j.W.cell? ⟨bc, 4, none⟩ = some (.slice Cg ng rg) := fun j => (j.h.at_ 1 rfl).cell 4
      have Q2 := Lib.hid (fun W (hi : Its yg [(ba, 28, csT 0 0 Ae me pe Be ke qe Ce ne re), (bc, 32, csT 0 0 Ag mg pg Bg kg qg Cg ng rg)] [(.i64, Ae, me, []), (.i64, Be, ke, []), (.u64, Ce, ne, []), (.i64, Ag, mg, []), (.i64, Bg, kg, []), (.u64, Cg, ng, [])] W) => same_yes 0 0 Ae me pe Be ke qe Ce ne re Ag mg pg Bg kg qg Cg ng rg [] [] [] W (hi.tab 0 rfl rfl rfl) (hi.tab 3 rfl rfl rfl) hm1 hk1 hn1)
      go_wp2_with fail
      refine region_class (Its yg [(ba, 28, csT 0 0 Ae me pe Be ke qe Ce ne re), (bc, 32, csT 0 0 Ag mg pg Bg kg qg Cg ng rg)] [(.i64, Ae, me, []), (.i64, Be, ke, []), (.u64, Ce, ne, []), (.i64, Ag, mg, []), (.i64, Bg, kg, []), (.u64, Cg, ng, [])]) (by kernel_rfl) (by kernel_rfl) I.drawn ?_
      repeat (go_big_quiet_step (first
        | (go_at_call 12; with_reducible exact class_call _ (fun hi => its_ge hi (ref_any 0 0 Ae me pe Be ke qe Ce ne re _)))
        | (go_at_call 11; with_reducible exact class_call _ (fun hi => its_ge hi (Q2.out _ hi)))))
      refine wpQuiet_nil ?_
      rintro _ ⟨j, rfl⟩
      have hb := j.h.b
      clear fa0 fa1 fa2 fa3 fa4 fc0 fc1 fc2 fc3 fc4 Q2 I hne
      replace Kz := Kz.later hb
      replace Kv := Kv.later hb
      replace K5 := K5.later hb
      replace Z6 := Z6.later hb
      replace Z7 := Z7.later hb
      replace tz := tz.later hb
      replace tv := tv.later hb
      replace Ke := Ke.later hb
      replace te := te.later hb
      replace Kg := Kg.later hb
      replace tg := tg.later hb
      replace BB := Ge.trans BB hb
      clear hb
      generalize j.W = wt at *
      clear j
      go_wp2_with fail
      refine FreeC.wp_freeC (wl [some (.agg #[.int .i64 sg, .int .i64 st, .slice Az mz pz, .slice Bz kz qz, .slice Cz nz rz]), some (.agg #[.int .i64 sg, .int .i64 st, .slice Av mv pv, .slice Bv kv qv, .slice Cv nv rv]), none, none, some (.bool true)]) (Tw wt (w.heap.size + 1 + 1 + 1) (w.heap.size + 1 + 1 + 1 + 1) (csT sg st Az mz pz Bz kz qz Cz nz rz) (csT sg st Av mv pv Bv kv qv Cv nv rv)) (by kernel_rfl) (by kernel_rfl) (Tw.start Z6 Z7 (by omega)) ?_ ?_
      · refine ⟨?_, ?_, ?_, ?_, ?_, trivial⟩
        · intro listed A0 W hA hno hr K hK
          refine wp_load_row _ (.tmp 3) rfl w.heap.size ((hA.kept 3 (Free.not_dst (by kernel_rfl))).trans rfl) _ (csT sg st Az mz pz Bz kz qz Cz nz rz) (0, 0) _ ((hA.c.r w.heap.size (by omega) (by omega)).trans Kz) Try.underlying28 rfl info_t ?_
          exact hK _ _ (hA.c.same 0 (by omega) (by omega)) rfl (fun j u _ _ hu => hu)
        · intro listed A0 W hA hno hr K hK
          refine wp_load_row _ (.tmp 4) rfl (w.heap.size + 1) ((hA.kept 4 (Free.not_dst (by kernel_rfl))).trans rfl) _ (csT sg st Av mv pv Bv kv qv Cv nv rv) (0, 0) _ ((hA.c.r (w.heap.size + 1) (by omega) (by omega)).trans Kv) Try.underlying32 rfl info_r ?_
          exact hK _ _ (hA.c.same 1 (by omega) (by omega)) rfl (fun j u _ _ hu => hu)
        · intro listed A0 W hA hno hr K hK
          have hsl := hA.size
          simp at hsl
          refine wp_store_row _ (.tmp 6) (.tmp 72) rfl (w.heap.size + 1 + 1 + 1) (csT sg st Az mz pz Bz kz qz Cz nz rz) ((hA.kept 6 (Free.not_dst (by kernel_rfl))).trans rfl) (hA.val 0 _ rfl (hr ⟨0, .data⟩ (by simp) rfl)) _ _ (hA.c.p (not_listed (by omega) hno)) info_t rfl (csT_one _ _ _ _ _ _ _ _ _ _ _) ?_
          exact hK undef _ (hA.c.st6 (by omega) (by omega) (not_listed (by omega) hno)) trivial (fun j u _ _ hu => wl_any hu)
        · intro listed A0 W hA hno hr K hK
          have hsl := hA.size
          simp at hsl
          refine wp_store_row _ (.tmp 7) (.tmp 73) rfl (w.heap.size + 1 + 1 + 1 + 1) (csT sg st Av mv pv Bv kv qv Cv nv rv) ((hA.kept 7 (Free.not_dst (by kernel_rfl))).trans rfl) (hA.val 1 _ rfl (hr ⟨1, .data⟩ (by simp) rfl)) _ _ (hA.c.q (not_listed (by omega) hno)) info_r rfl (csT_one _ _ _ _ _ _ _ _ _ _ _) ?_
          exact hK undef _ (hA.c.st7 (by omega) (by omega) (not_listed (by omega) hno)) trivial (fun j u _ _ hu => wl_any hu)
        · intro listed A0 W hA hno hr K hK
          simp [go_sem]
          exact hK _ _ (hA.c.same 4 (by omega) (by omega)) rfl (fun j u _ _ hu => hu)
      · intro A0 W hA
        have E6 := hA.c.p' rfl
        have E7 := hA.c.q' rfl
        have BE := Ge.trans2 BB (hA.c.bel w.heap.size (by omega) (by omega))
        have s6 : A0.tmps.getD 6 undef = .pointer (some ⟨w.heap.size + 1 + 1 + 1, 0, none⟩) := (hA.kept 6 (Free.not_dst (by kernel_rfl))).trans rfl
        have s7 : A0.tmps.getD 7 undef = .pointer (some ⟨w.heap.size + 1 + 1 + 1 + 1, 0, none⟩) := (hA.kept 7 (Free.not_dst (by kernel_rfl))).trans rfl
        have s8 : A0.tmps.getD 8 undef = .bool true := hA.val 4 _ rfl rfl
        have hrr := hA.c.r
        have hss := hA.c.s
        have hde := hA.defers
        clear hA
        obtain ⟨tm, de⟩ := A0
        simp only at s6 s7 s8 hde
        subst hde
        go_wp2_with fail
        exact bodyPost_ret (res_do rfl _ _ (w.heap.size + 1 + 1 + 1) (w.heap.size + 1 + 1 + 1 + 1) s6 s7 s8 E6 E7) rfl ⟨sg, st, Az, mz, pz, Bz, kz, qz, Cz, nz, rz, Av, mv, pv, Bv, kv, qv, Cv, nv, rv, o, l, f, rfl, HO.out, HZ0.out.later BE, HV0.out.later BE, hmp, (fun _ _ => ⟨id, id⟩), BE⟩
    | some u =>
      obtain rfl : ere = 0 := by rw [← Ye.out, hc1]; rfl
      obtain rfl : u = ⟨sge, ste, oe, le, fe⟩ := by have := He.out; rw [hc1] at this; exact this
      have hu : Hid (okP ⟨sge, ste, oe, le, fe⟩) := Lib.hid (drop_ok HO.out hc1)
      obtain ⟨hm1, hk1, hn1⟩ := (ok_full hu.out te).2.2.2.2
      have I : Its yg [(ba, 28, csT sge ste Ae me pe Be ke qe Ce ne re), (bc, 32, csT sge ste Ag mg pg Bg kg qg Cg ng rg)] [(.i64, Ae, me, oe), (.i64, Be, ke, le), (.u64, Ce, ne, fe), (.i64, Ag, mg, oe), (.i64, Bg, kg, le), (.u64, Cg, ng, fe)] yg := ((((Its.nil (Below.refl _ _)).cons Kg).cons Ke).tcons tg).tcons te
      have hne : Nonempty (In (Its yg [(ba, 28, csT sge ste Ae me pe Be ke qe Ce ne re), (bc, 32, csT sge ste Ag mg pg Bg kg qg Cg ng rg)] [(.i64, Ae, me, oe), (.i64, Be, ke, le), (.u64, Ce, ne, fe), (.i64, Ag, mg, oe), (.i64, Bg, kg, le), (.u64, Cg, ng, fe)])) := ⟨⟨_, I⟩⟩
      have fa0 : ∀ j : In (Its yg [(ba, 28, csT sge ste Ae me pe Be ke qe Ce ne re), (bc, 32, csT sge ste Ag mg pg Bg kg qg Cg ng rg)] [(.i64, Ae, me, oe), (.i64, Be, ke, le), (.u64, Ce, ne, fe), (.i64, Ag, mg, oe), (.i64, Bg, kg, le), (.u64, Cg, ng, fe)]), j.W.cell? ⟨ba, 0, none⟩ = some (.int .i64 sge) := fun j => (j.h.at_ 0 rfl).cell 0
      have fa1 : ∀ j : In (Its yg [(ba, 28, csT sge ste Ae me pe Be ke qe Ce ne re), (bc, 32, csT sge ste Ag mg pg Bg kg qg Cg ng rg)] [(.i64, Ae, me, oe), (.i64, Be, ke, le), (.u64, Ce, ne, fe), (.i64, Ag, mg, oe), (.i64, Bg, kg, le), (.u64, Cg, ng, fe)]), j.W.cell? ⟨ba, 1, none⟩ = some (.int .i64 ste) := fun j => (j.h.at_ 0 rfl).cell 1
      have fa2 : ∀ j : In (Its yg [(ba, 28, csT sge ste Ae me pe Be ke qe Ce ne re), (bc, 32, csT sge ste Ag mg pg Bg kg qg Cg ng rg)] [(.i64, Ae, me, oe), (.i64, Be, ke, le), (.u64, Ce, ne, fe), (.i64, Ag, mg, oe), (.i64, Bg, kg, le), (.u64, Cg, ng, fe)]), j.W.cell? ⟨ba, 2, none⟩ = some (.slice Ae me pe) := fun j => (j.h.at_ 0 rfl).cell 2
      have fa3 : ∀ j : In (Its yg [(ba, 28, csT sge ste Ae me pe Be ke qe Ce ne re), (bc, 32, csT sge ste Ag mg pg Bg kg qg Cg ng rg)] [(.i64, Ae, me, oe), (.i64, Be, ke, le), (.u64, Ce, ne, fe), (.i64, Ag, mg, oe), (.i64, Bg, kg, le), (.u64, Cg, ng, fe)]), j.W.cell? ⟨ba, 3, none⟩ = some (.slice Be ke qe) := fun j => (j.h.at_ 0 rfl).cell 3
      have fa4 : ∀ j : In (Its yg [(ba, 28, csT sge ste Ae me pe Be ke qe Ce ne re), (bc, 32, csT sge ste Ag mg pg Bg kg qg Cg ng rg)] [(.i64, Ae, me, oe), (.i64, Be, ke, le), (.u64, Ce, ne, fe), (.i64, Ag, mg, oe), (.i64, Bg, kg, le), (.u64, Cg, ng, fe)]), j.W.cell? ⟨ba, 4, none⟩ = some (.slice Ce ne re) := fun j => (j.h.at_ 0 rfl).cell 4
      have fc0 : ∀ j : In (Its yg [(ba, 28, csT sge ste Ae me pe Be ke qe Ce ne re), (bc, 32, csT sge ste Ag mg pg Bg kg qg Cg ng rg)] [(.i64, Ae, me, oe), (.i64, Be, ke, le), (.u64, Ce, ne, fe), (.i64, Ag, mg, oe), (.i64, Bg, kg, le), (.u64, Cg, ng, fe)]), j.W.cell? ⟨bc, 0, none⟩ = some (.int .i64 sge) := fun j => (j.h.at_ 1 rfl).cell 0
      have fc1 : ∀ j : In (Its yg [(ba, 28, csT sge ste Ae me pe Be ke qe Ce ne re), (bc, 32, csT sge ste Ag mg pg Bg kg qg Cg ng rg)] [(.i64, Ae, me, oe), (.i64, Be, ke, le), (.u64, Ce, ne, fe), (.i64, Ag, mg, oe), (.i64, Bg, kg, le), (.u64, Cg, ng, fe)]), j.W.cell? ⟨bc, 1, none⟩ = some (.int .i64 ste) := fun j => (j.h.at_ 1 rfl).cell 1
      have fc2 : ∀ j : In (Its yg [(ba, 28, csT sge ste Ae me pe Be ke qe Ce ne re), (bc, 32, csT sge ste Ag mg pg Bg kg qg Cg ng rg)] [(.i64, Ae, me, oe), (.i64, Be, ke, le), (.u64, Ce, ne, fe), (.i64, Ag, mg, oe), (.i64, Bg, kg, le), (.u64, Cg, ng, fe)]), j.W.cell? ⟨bc, 2, none⟩ = some (.slice Ag mg pg) := fun j => (j.h.at_ 1 rfl).cell 2
      have fc3 : ∀ j : In (Its yg [(ba, 28, csT sge ste Ae me pe Be ke qe Ce ne re), (bc, 32, csT sge ste Ag mg pg Bg kg qg Cg ng rg)] [(.i64, Ae, me, oe), (.i64, Be, ke, le), (.u64, Ce, ne, fe), (.i64, Ag, mg, oe), (.i64, Bg, kg, le), (.u64, Cg, ng, fe)]), j.W.cell? ⟨bc, 3, none⟩ = some (.slice Bg kg qg) := fun j => (j.h.at_ 1 rfl).cell 3
      have fc4 : ∀ j : In (Its yg [(ba, 28, csT sge ste Ae me pe Be ke qe Ce ne re), (bc, 32, csT sge ste Ag mg pg Bg kg qg Cg ng rg)] [(.i64, Ae, me, oe), (.i64, Be, ke, le), (.u64, Ce, ne, fe), (.i64, Ag, mg, oe), (.i64, Bg, kg, le), (.u64, Cg, ng, fe)]), j.W.cell? ⟨bc, 4, none⟩ = some (.slice Cg ng rg) := fun j => (j.h.at_ 1 rfl).cell 4
      have Q2 := Lib.hid (fun W (hi : Its yg [(ba, 28, csT sge ste Ae me pe Be ke qe Ce ne re), (bc, 32, csT sge ste Ag mg pg Bg kg qg Cg ng rg)] [(.i64, Ae, me, oe), (.i64, Be, ke, le), (.u64, Ce, ne, fe), (.i64, Ag, mg, oe), (.i64, Bg, kg, le), (.u64, Cg, ng, fe)] W) => same_yes sge ste Ae me pe Be ke qe Ce ne re Ag mg pg Bg kg qg Cg ng rg oe le fe W (hi.tab 0 rfl rfl rfl) (hi.tab 3 rfl rfl rfl) hm1 hk1 hn1)
      go_wp2_with fail
      refine region_class (Its yg [(ba, 28, csT sge ste Ae me pe Be ke qe Ce ne re), (bc, 32, csT sge ste Ag mg pg Bg kg qg Cg ng rg)] [(.i64, Ae, me, oe), (.i64, Be, ke, le), (.u64, Ce, ne, fe), (.i64, Ag, mg, oe), (.i64, Bg, kg, le), (.u64, Cg, ng, fe)]) (by kernel_rfl) (by kernel_rfl) I.drawn ?_
      repeat (go_big_quiet_step (first
        | (go_at_call 12; with_reducible exact class_call _ (fun hi => its_ge hi (ref_any sge ste Ae me pe Be ke qe Ce ne re _)))
        | (go_at_call 11; with_reducible exact class_call _ (fun hi => its_ge hi (Q2.out _ hi)))))
      refine wpQuiet_nil ?_
      rintro _ ⟨j, rfl⟩
      have hb := j.h.b
      clear fa0 fa1 fa2 fa3 fa4 fc0 fc1 fc2 fc3 fc4 Q2 I hne
      replace Kz := Kz.later hb
      replace Kv := Kv.later hb
      replace K5 := K5.later hb
      replace Z6 := Z6.later hb
      replace Z7 := Z7.later hb
      replace tz := tz.later hb
      replace tv := tv.later hb
      replace Ke := Ke.later hb
      replace te := te.later hb
      replace Kg := Kg.later hb
      replace tg := tg.later hb
      replace BB := Ge.trans BB hb
      clear hb
      generalize j.W = wt at *
      clear j
      go_wp2_with fail
      refine FreeC.wp_freeC (wl [some (.agg #[.int .i64 sge, .int .i64 ste, .slice Ae me pe, .slice Be ke qe, .slice Ce ne re]), some (.agg #[.int .i64 sge, .int .i64 ste, .slice Ag mg pg, .slice Bg kg qg, .slice Cg ng rg]), none, none, some (.bool true)]) (Tw wt (w.heap.size + 1 + 1 + 1) (w.heap.size + 1 + 1 + 1 + 1) (csT sge ste Ae me pe Be ke qe Ce ne re) (csT sge ste Ag mg pg Bg kg qg Cg ng rg)) (by kernel_rfl) (by kernel_rfl) (Tw.start Z6 Z7 (by omega)) ?_ ?_
      · refine ⟨?_, ?_, ?_, ?_, ?_, trivial⟩
        · intro listed A0 W hA hno hr K hK
          refine wp_load_row _ (.tmp 9) rfl ba ((hA.kept 9 (Free.not_dst (by kernel_rfl))).trans rfl) _ (csT sge ste Ae me pe Be ke qe Ce ne re) (0, 0) _ ((hA.c.r ba (by omega) (by omega)).trans Ke) Try.underlying28 rfl info_t ?_
          exact hK _ _ (hA.c.same 0 (by omega) (by omega)) rfl (fun j u _ _ hu => hu)
        · intro listed A0 W hA hno hr K hK
          refine wp_load_row _ (.tmp 11) rfl bc ((hA.kept 11 (Free.not_dst (by kernel_rfl))).trans rfl) _ (csT sge ste Ag mg pg Bg kg qg Cg ng rg) (0, 0) _ ((hA.c.r bc (by omega) (by omega)).trans Kg) Try.underlying32 rfl info_r ?_
          exact hK _ _ (hA.c.same 1 (by omega) (by omega)) rfl (fun j u _ _ hu => hu)
        · intro listed A0 W hA hno hr K hK
          have hsl := hA.size
          simp at hsl
          refine wp_store_row _ (.tmp 6) (.tmp 74) rfl (w.heap.size + 1 + 1 + 1) (csT sge ste Ae me pe Be ke qe Ce ne re) ((hA.kept 6 (Free.not_dst (by kernel_rfl))).trans rfl) (hA.val 0 _ rfl (hr ⟨0, .data⟩ (by simp) rfl)) _ _ (hA.c.p (not_listed (by omega) hno)) info_t rfl (csT_one _ _ _ _ _ _ _ _ _ _ _) ?_
          exact hK undef _ (hA.c.st6 (by omega) (by omega) (not_listed (by omega) hno)) trivial (fun j u _ _ hu => wl_any hu)
        · intro listed A0 W hA hno hr K hK
          have hsl := hA.size
          simp at hsl
          refine wp_store_row _ (.tmp 7) (.tmp 75) rfl (w.heap.size + 1 + 1 + 1 + 1) (csT sge ste Ag mg pg Bg kg qg Cg ng rg) ((hA.kept 7 (Free.not_dst (by kernel_rfl))).trans rfl) (hA.val 1 _ rfl (hr ⟨1, .data⟩ (by simp) rfl)) _ _ (hA.c.q (not_listed (by omega) hno)) info_r rfl (csT_one _ _ _ _ _ _ _ _ _ _ _) ?_
          exact hK undef _ (hA.c.st7 (by omega) (by omega) (not_listed (by omega) hno)) trivial (fun j u _ _ hu => wl_any hu)
        · intro listed A0 W hA hno hr K hK
          simp [go_sem]
          exact hK _ _ (hA.c.same 4 (by omega) (by omega)) rfl (fun j u _ _ hu => hu)
      · intro A0 W hA
        have E6 := hA.c.p' rfl
        have E7 := hA.c.q' rfl
        have BE := Ge.trans2 BB (hA.c.bel w.heap.size (by omega) (by omega))
        have s6 : A0.tmps.getD 6 undef = .pointer (some ⟨w.heap.size + 1 + 1 + 1, 0, none⟩) := (hA.kept 6 (Free.not_dst (by kernel_rfl))).trans rfl
        have s7 : A0.tmps.getD 7 undef = .pointer (some ⟨w.heap.size + 1 + 1 + 1 + 1, 0, none⟩) := (hA.kept 7 (Free.not_dst (by kernel_rfl))).trans rfl
        have s8 : A0.tmps.getD 8 undef = .bool true := hA.val 4 _ rfl rfl
        have hrr := hA.c.r
        have hss := hA.c.s
        have hde := hA.defers
        clear hA
        obtain ⟨tm, de⟩ := A0
        simp only at s6 s7 s8 hde
        subst hde
        go_wp2_with fail
        exact bodyPost_ret (res_do rfl _ _ (w.heap.size + 1 + 1 + 1) (w.heap.size + 1 + 1 + 1 + 1) s6 s7 s8 E6 E7) rfl ⟨sge, ste, Ae, me, pe, Be, ke, qe, Ce, ne, re, Ag, mg, pg, Bg, kg, qg, Cg, ng, rg, oe, le, fe, rfl, hu.out, te.sameF fre hss (fun g hg => hrr g (by omega) (by omega)), tg.sameF frg hss (fun g hg => hrr g (by omega) (by omega)), mpe, (fun g hg => ⟨fun _ => nb3_of hu.out te fre (by omega), fun _ => nb3_of hu.out tg frg (by omega)⟩), BE⟩
  have q1 : (kk == 1) = false := by simp [h1]
  have x0 : yc.cell? ⟨w.heap.size + 1 + 1, 0, none⟩ = some (.int .i64 K) := K5.cell 0
  have x1 : yc.cell? ⟨w.heap.size + 1 + 1, 1, none⟩ = some (.int .i64 G) := K5.cell 1
  have x2 : yc.cell? ⟨w.heap.size + 1 + 1, 2, none⟩ = some (.int .u64 F) := K5.cell 2
  cases hc1 : countT ⟨sg, st, o, l, f⟩ with
  | none =>
    obtain rfl : era = 10 := by rw [← Ya.out, hc1]; rfl
    have hZ := Ha.out
    rw [hc1] at hZ
    obtain ⟨rfl, rfl, rfl, rfl, rfl⟩ : 0 = sga ∧ 0 = sta ∧ [] = oa ∧ [] = la ∧ [] = fa := by injection hZ with h1 h2 h3 h4 h5; exact ⟨h1, h2, h3, h4, h5⟩
    have hm1 : ma ≤ maxLen := size_le ta.a (by simp)
    have hk1 : ka ≤ maxLen := size_le ta.b (by simp)
    have hn1 : na ≤ maxLen := size_le ta.c (by simp)
    have I : Its yc [(ba, 28, csT 0 0 Aa ma pa Ba ka qa Ca na ra), (bc, 32, csT 0 0 Ac mc pc Bc kc qc Cc nc rc)] [(.i64, Aa, ma, []), (.i64, Ba, ka, []), (.u64, Ca, na, []), (.i64, Ac, mc, []), (.i64, Bc, kc, []), (.u64, Cc, nc, [])] yc := ((((Its.nil (Below.refl _ _)).cons Kc).cons Ka).tcons tc).tcons ta
    have hne : Nonempty (In (Its yc [(ba, 28, csT 0 0 Aa ma pa Ba ka qa Ca na ra), (bc, 32, csT 0 0 Ac mc pc Bc kc qc Cc nc rc)] [(.i64, Aa, ma, []), (.i64, Ba, ka, []), (.u64, Ca, na, []), (.i64, Ac, mc, []), (.i64, Bc, kc, []), (.u64, Cc, nc, [])])) := ⟨⟨_, I⟩⟩
    have fa0 : ∀ j : In (Its yc [(ba, 28, csT 0 0 Aa ma pa Ba ka qa Ca na ra), (bc, 32, csT 0 0 Ac mc pc Bc kc qc Cc nc rc)] [(.i64, Aa, ma, []), (.i64, Ba, ka, []), (.u64, Ca, na, []), (.i64, Ac, mc, []), (.i64, Bc, kc, []), (.u64, Cc, nc, [])]), j.W.cell? ⟨ba, 0, none⟩ = some (.int .i64 0) := fun j => (j.h.at_ 0 rfl).cell 0
    have fa1 : ∀ j : In (Its yc [(ba, 28, csT 0 0 Aa ma pa Ba ka qa Ca na ra), (bc, 32, csT 0 0 Ac mc pc Bc kc qc Cc nc rc)] [(.i64, Aa, ma, []), (.i64, Ba, ka, []), (.u64, Ca, na, []), (.i64, Ac, mc, []), (.i64, Bc, kc, []), (.u64, Cc, nc, [])]), j.W.cell? ⟨ba, 1, none⟩ = some (.int .i64 0) := fun j => (j.h.at_ 0 rfl).cell 1
    have fa2 : ∀ j : In (Its yc [(ba, 28, csT 0 0 Aa ma pa Ba ka qa Ca na ra), (bc, 32, csT 0 0 Ac mc pc Bc kc qc Cc nc rc)] [(.i64, Aa, ma, []), (.i64, Ba, ka, []), (.u64, Ca, na, []), (.i64, Ac, mc, []), (.i64, Bc, kc, []), (.u64, Cc, nc, [])]), j.W.cell? ⟨ba, 2, none⟩ = some (.slice Aa ma pa) := fun j => (j.h.at_ 0 rfl).cell 2
    have fa3 : ∀ j : In (Its yc [(ba, 28, csT 0 0 Aa ma pa Ba ka qa Ca na ra), (bc, 32, csT 0 0 Ac mc pc Bc kc qc Cc nc rc)] [(.i64, Aa, ma, []), (.i64, Ba, ka, []), (.u64, Ca, na, []), (.i64, Ac, mc, []), (.i64, Bc, kc, []), (.u64, Cc, nc, [])]), j.W.cell? ⟨ba, 3, none⟩ = some (.slice Ba ka qa) := fun j => (j.h.at_ 0 rfl).cell 3
    have fa4 : ∀ j : In (Its yc [(ba, 28, csT 0 0 Aa ma pa Ba ka qa Ca na ra), (bc, 32, csT 0 0 Ac mc pc Bc kc qc Cc nc rc)] [(.i64, Aa, ma, []), (.i64, Ba, ka, []), (.u64, Ca, na, []), (.i64, Ac, mc, []), (.i64, Bc, kc, []), (.u64, Cc, nc, [])]), j.W.cell? ⟨ba, 4, none⟩ = some (.slice Ca na ra) := fun j => (j.h.at_ 0 rfl).cell 4
    have fc0 : ∀ j : In (Its yc [(ba, 28, csT 0 0 Aa ma pa Ba ka qa Ca na ra), (bc, 32, csT 0 0 Ac mc pc Bc kc qc Cc nc rc)] [(.i64, Aa, ma, []), (.i64, Ba, ka, []), (.u64, Ca, na, []), (.i64, Ac, mc, []), (.i64, Bc, kc, []), (.u64, Cc, nc, [])]), j.W.cell? ⟨bc, 0, none⟩ = some (.int .i64 0) := fun j => (j.h.at_ 1 rfl).cell 0
    have fc1 : ∀ j : In (Its yc [(ba, 28, csT 0 0 Aa ma pa Ba ka qa Ca na ra), (bc, 32, csT 0 0 Ac mc pc Bc kc qc Cc nc rc)] [(.i64, Aa, ma, []), (.i64, Ba, ka, []), (.u64, Ca, na, []), (.i64, Ac, mc, []), (.i64, Bc, kc, []), (.u64, Cc, nc, [])]), j.W.cell? ⟨bc, 1, none⟩ = some (.int .i64 0) := fun j => (j.h.at_ 1 rfl).cell 1
    have fc2 : ∀ j : In (Its yc [(ba, 28, csT 0 0 Aa ma pa Ba ka qa Ca na ra), (bc, 32, csT 0 0 Ac mc pc Bc kc qc Cc nc rc)] [(.i64, Aa, ma, []), (.i64, Ba, ka, []), (.u64, Ca, na, []), (.i64, Ac, mc, []), (.i64, Bc, kc, []), (.u64, Cc, nc, [])]), j.W.cell? ⟨bc, 2, none⟩ = some (.slice Ac mc pc) := fun j => (j.h.at_ 1 rfl).cell 2
    have fc3 : ∀ j : In (Its yc [(ba, 28, csT 0 0 Aa ma pa Ba ka qa Ca na ra), (bc, 32, csT 0 0 Ac mc pc Bc kc qc Cc nc rc)] [(.i64, Aa, ma, []), (.i64, Ba, ka, []), (.u64, Ca, na, []), (.i64, Ac, mc, []), (.i64, Bc, kc, []), (.u64, Cc, nc, [])]), j.W.cell? ⟨bc, 3, none⟩ = some (.slice Bc kc qc) := fun j => (j.h.at_ 1 rfl).cell 3
    have fc4 : ∀ j : In (Its yc [(ba, 28, csT 0 0 Aa ma pa Ba ka qa Ca na ra), (bc, 32, csT 0 0 Ac mc pc Bc kc qc Cc nc rc)] [(.i64, Aa, ma, []), (.i64, Ba, ka, []), (.u64, Ca, na, []), (.i64, Ac, mc, []), (.i64, Bc, kc, []), (.u64, Cc, nc, [])]), j.W.cell? ⟨bc, 4, none⟩ = some (.slice Cc nc rc) := fun j => (j.h.at_ 1 rfl).cell 4
    have Q2 := Lib.hid (fun W (hi : Its yc [(ba, 28, csT 0 0 Aa ma pa Ba ka qa Ca na ra), (bc, 32, csT 0 0 Ac mc pc Bc kc qc Cc nc rc)] [(.i64, Aa, ma, []), (.i64, Ba, ka, []), (.u64, Ca, na, []), (.i64, Ac, mc, []), (.i64, Bc, kc, []), (.u64, Cc, nc, [])] W) => same_yes 0 0 Aa ma pa Ba ka qa Ca na ra Ac mc pc Bc kc qc Cc nc rc [] [] [] W (hi.tab 0 rfl rfl rfl) (hi.tab 3 rfl rfl rfl) hm1 hk1 hn1)
    go_wp2_with fail
    refine region_class (Its yc [(ba, 28, csT 0 0 Aa ma pa Ba ka qa Ca na ra), (bc, 32, csT 0 0 Ac mc pc Bc kc qc Cc nc rc)] [(.i64, Aa, ma, []), (.i64, Ba, ka, []), (.u64, Ca, na, []), (.i64, Ac, mc, []), (.i64, Bc, kc, []), (.u64, Cc, nc, [])]) (by kernel_rfl) (by kernel_rfl) I.drawn ?_
    repeat (go_big_quiet_step (first
      | (go_at_call 12; with_reducible exact class_call _ (fun hi => its_ge hi (ref_any 0 0 Aa ma pa Ba ka qa Ca na ra _)))
      | (go_at_call 11; with_reducible exact class_call _ (fun hi => its_ge hi (Q2.out _ hi)))))
    refine wpQuiet_nil ?_
    rintro _ ⟨j, rfl⟩
    have hb := j.h.b
    clear fa0 fa1 fa2 fa3 fa4 fc0 fc1 fc2 fc3 fc4 Q2 I hne
    replace Kz := Kz.later hb
    replace Kv := Kv.later hb
    replace K5 := K5.later hb
    replace Z6 := Z6.later hb
    replace Z7 := Z7.later hb
    replace tz := tz.later hb
    replace tv := tv.later hb
    replace ta := ta.later hb
    replace Ka := Ka.later hb
    replace tc := tc.later hb
    replace Kc := Kc.later hb
    replace BB := Ge.trans BB hb
    clear hb
    generalize j.W = wt at *
    clear j
    go_wp2_with fail
    refine FreeC.wp_freeC (wl [some (.agg #[.int .i64 sg, .int .i64 st, .slice Az mz pz, .slice Bz kz qz, .slice Cz nz rz]), some (.agg #[.int .i64 sg, .int .i64 st, .slice Av mv pv, .slice Bv kv qv, .slice Cv nv rv]), none, none, some (.bool true)]) (Tw wt (w.heap.size + 1 + 1 + 1) (w.heap.size + 1 + 1 + 1 + 1) (csT sg st Az mz pz Bz kz qz Cz nz rz) (csT sg st Av mv pv Bv kv qv Cv nv rv)) (by kernel_rfl) (by kernel_rfl) (Tw.start Z6 Z7 (by omega)) ?_ ?_
    · refine ⟨?_, ?_, ?_, ?_, ?_, trivial⟩
      · intro listed A0 W hA hno hr K hK
        refine wp_load_row _ (.tmp 3) rfl w.heap.size ((hA.kept 3 (Free.not_dst (by kernel_rfl))).trans rfl) _ (csT sg st Az mz pz Bz kz qz Cz nz rz) (0, 0) _ ((hA.c.r w.heap.size (by omega) (by omega)).trans Kz) Try.underlying28 rfl info_t ?_
        exact hK _ _ (hA.c.same 0 (by omega) (by omega)) rfl (fun j u _ _ hu => hu)
      · intro listed A0 W hA hno hr K hK
        refine wp_load_row _ (.tmp 4) rfl (w.heap.size + 1) ((hA.kept 4 (Free.not_dst (by kernel_rfl))).trans rfl) _ (csT sg st Av mv pv Bv kv qv Cv nv rv) (0, 0) _ ((hA.c.r (w.heap.size + 1) (by omega) (by omega)).trans Kv) Try.underlying32 rfl info_r ?_
        exact hK _ _ (hA.c.same 1 (by omega) (by omega)) rfl (fun j u _ _ hu => hu)
      · intro listed A0 W hA hno hr K hK
        have hsl := hA.size
        simp at hsl
        refine wp_store_row _ (.tmp 6) (.tmp 72) rfl (w.heap.size + 1 + 1 + 1) (csT sg st Az mz pz Bz kz qz Cz nz rz) ((hA.kept 6 (Free.not_dst (by kernel_rfl))).trans rfl) (hA.val 0 _ rfl (hr ⟨0, .data⟩ (by simp) rfl)) _ _ (hA.c.p (not_listed (by omega) hno)) info_t rfl (csT_one _ _ _ _ _ _ _ _ _ _ _) ?_
        exact hK undef _ (hA.c.st6 (by omega) (by omega) (not_listed (by omega) hno)) trivial (fun j u _ _ hu => wl_any hu)
      · intro listed A0 W hA hno hr K hK
        have hsl := hA.size
        simp at hsl
        refine wp_store_row _ (.tmp 7) (.tmp 73) rfl (w.heap.size + 1 + 1 + 1 + 1) (csT sg st Av mv pv Bv kv qv Cv nv rv) ((hA.kept 7 (Free.not_dst (by kernel_rfl))).trans rfl) (hA.val 1 _ rfl (hr ⟨1, .data⟩ (by simp) rfl)) _ _ (hA.c.q (not_listed (by omega) hno)) info_r rfl (csT_one _ _ _ _ _ _ _ _ _ _ _) ?_
        exact hK undef _ (hA.c.st7 (by omega) (by omega) (not_listed (by omega) hno)) trivial (fun j u _ _ hu => wl_any hu)
      · intro listed A0 W hA hno hr K hK
        simp [go_sem]
        exact hK _ _ (hA.c.same 4 (by omega) (by omega)) rfl (fun j u _ _ hu => hu)
    · intro A0 W hA
      have E6 := hA.c.p' rfl
      have E7 := hA.c.q' rfl
      have BE := Ge.trans2 BB (hA.c.bel w.heap.size (by omega) (by omega))
      have s6 : A0.tmps.getD 6 undef = .pointer (some ⟨w.heap.size + 1 + 1 + 1, 0, none⟩) := (hA.kept 6 (Free.not_dst (by kernel_rfl))).trans rfl
      have s7 : A0.tmps.getD 7 undef = .pointer (some ⟨w.heap.size + 1 + 1 + 1 + 1, 0, none⟩) := (hA.kept 7 (Free.not_dst (by kernel_rfl))).trans rfl
      have s8 : A0.tmps.getD 8 undef = .bool true := hA.val 4 _ rfl rfl
      have hrr := hA.c.r
      have hss := hA.c.s
      have hde := hA.defers
      clear hA
      obtain ⟨tm, de⟩ := A0
      simp only at s6 s7 s8 hde
      subst hde
      go_wp2_with fail
      exact bodyPost_ret (res_do rfl _ _ (w.heap.size + 1 + 1 + 1) (w.heap.size + 1 + 1 + 1 + 1) s6 s7 s8 E6 E7) rfl ⟨sg, st, Az, mz, pz, Bz, kz, qz, Cz, nz, rz, Av, mv, pv, Bv, kv, qv, Cv, nv, rv, o, l, f, rfl, HO.out, HZ0.out.later BE, HV0.out.later BE, hmp, (fun _ _ => ⟨id, id⟩), BE⟩
  | some u =>
    obtain rfl : era = 0 := by rw [← Ya.out, hc1]; rfl
    obtain rfl : u = ⟨sga, sta, oa, la, fa⟩ := by have := Ha.out; rw [hc1] at this; exact this
    have hu : Hid (okP ⟨sga, sta, oa, la, fa⟩) := Lib.hid (count_ok HO.out hc1)
    obtain ⟨hm1, hk1, hn1⟩ := (ok_full hu.out ta).2.2.2.2
    have I : Its yc [(ba, 28, csT sga sta Aa ma pa Ba ka qa Ca na ra), (bc, 32, csT sga sta Ac mc pc Bc kc qc Cc nc rc)] [(.i64, Aa, ma, oa), (.i64, Ba, ka, la), (.u64, Ca, na, fa), (.i64, Ac, mc, oa), (.i64, Bc, kc, la), (.u64, Cc, nc, fa)] yc := ((((Its.nil (Below.refl _ _)).cons Kc).cons Ka).tcons tc).tcons ta
    have hne : Nonempty (In (Its yc [(ba, 28, csT sga sta Aa ma pa Ba ka qa Ca na ra), (bc, 32, csT sga sta Ac mc pc Bc kc qc Cc nc rc)] [(.i64, Aa, ma, oa), (.i64, Ba, ka, la), (.u64, Ca, na, fa), (.i64, Ac, mc, oa), (.i64, Bc, kc, la), (.u64, Cc, nc, fa)])) := ⟨⟨_, I⟩⟩
    have fa0 : ∀ j : In (Its yc [(ba, 28, csT sga sta Aa ma pa Ba ka qa Ca na ra), (bc, 32, csT sga sta Ac mc pc Bc kc qc Cc nc rc)] [(.i64, Aa, ma, oa), (.i64, Ba, ka, la), (.u64, Ca, na, fa), (.i64, Ac, mc, oa), (.i64, Bc, kc, la), (.u64, Cc, nc, fa)]), j.W.cell? ⟨ba, 0, none⟩ = some (.int .i64 sga) := fun j => (j.h.at_ 0 rfl).cell 0
    have fa1 : ∀ j : In (Its yc [(ba, 28, csT sga sta Aa ma pa Ba ka qa Ca na ra), (bc, 32, csT sga sta Ac mc pc Bc kc qc Cc nc rc)] [(.i64, Aa, ma, oa), (.i64, Ba, ka, la), (.u64, Ca, na, fa), (.i64, Ac, mc, oa), (.i64, Bc, kc, la), (.u64, Cc, nc, fa)]), j.W.cell? ⟨ba, 1, none⟩ = some (.int .i64 sta) := fun j => (j.h.at_ 0 rfl).cell 1
    have fa2 : ∀ j : In (Its yc [(ba, 28, csT sga sta Aa ma pa Ba ka qa Ca na ra), (bc, 32, csT sga sta Ac mc pc Bc kc qc Cc nc rc)] [(.i64, Aa, ma, oa), (.i64, Ba, ka, la), (.u64, Ca, na, fa), (.i64, Ac, mc, oa), (.i64, Bc, kc, la), (.u64, Cc, nc, fa)]), j.W.cell? ⟨ba, 2, none⟩ = some (.slice Aa ma pa) := fun j => (j.h.at_ 0 rfl).cell 2
    have fa3 : ∀ j : In (Its yc [(ba, 28, csT sga sta Aa ma pa Ba ka qa Ca na ra), (bc, 32, csT sga sta Ac mc pc Bc kc qc Cc nc rc)] [(.i64, Aa, ma, oa), (.i64, Ba, ka, la), (.u64, Ca, na, fa), (.i64, Ac, mc, oa), (.i64, Bc, kc, la), (.u64, Cc, nc, fa)]), j.W.cell? ⟨ba, 3, none⟩ = some (.slice Ba ka qa) := fun j => (j.h.at_ 0 rfl).cell 3
    have fa4 : ∀ j : In (Its yc [(ba, 28, csT sga sta Aa ma pa Ba ka qa Ca na ra), (bc, 32, csT sga sta Ac mc pc Bc kc qc Cc nc rc)] [(.i64, Aa, ma, oa), (.i64, Ba, ka, la), (.u64, Ca, na, fa), (.i64, Ac, mc, oa), (.i64, Bc, kc, la), (.u64, Cc, nc, fa)]), j.W.cell? ⟨ba, 4, none⟩ = some (.slice Ca na ra) := fun j => (j.h.at_ 0 rfl).cell 4
    have fc0 : ∀ j : In (Its yc [(ba, 28, csT sga sta Aa ma pa Ba ka qa Ca na ra), (bc, 32, csT sga sta Ac mc pc Bc kc qc Cc nc rc)] [(.i64, Aa, ma, oa), (.i64, Ba, ka, la), (.u64, Ca, na, fa), (.i64, Ac, mc, oa), (.i64, Bc, kc, la), (.u64, Cc, nc, fa)]), j.W.cell? ⟨bc, 0, none⟩ = some (.int .i64 sga) := fun j => (j.h.at_ 1 rfl).cell 0
    have fc1 : ∀ j : In (Its yc [(ba, 28, csT sga sta Aa ma pa Ba ka qa Ca na ra), (bc, 32, csT sga sta Ac mc pc Bc kc qc Cc nc rc)] [(.i64, Aa, ma, oa), (.i64, Ba, ka, la), (.u64, Ca, na, fa), (.i64, Ac, mc, oa), (.i64, Bc, kc, la), (.u64, Cc, nc, fa)]), j.W.cell? ⟨bc, 1, none⟩ = some (.int .i64 sta) := fun j => (j.h.at_ 1 rfl).cell 1
    have fc2 : ∀ j : In (Its yc [(ba, 28, csT sga sta Aa ma pa Ba ka qa Ca na ra), (bc, 32, csT sga sta Ac mc pc Bc kc qc Cc nc rc)] [(.i64, Aa, ma, oa), (.i64, Ba, ka, la), (.u64, Ca, na, fa), (.i64, Ac, mc, oa), (.i64, Bc, kc, la), (.u64, Cc, nc, fa)]), j.W.cell? ⟨bc, 2, none⟩ = some (.slice Ac mc pc) := fun j => (j.h.at_ 1 rfl).cell 2
    have fc3 : ∀ j : In (Its yc [(ba, 28, csT sga sta Aa ma pa Ba ka qa Ca na ra), (bc, 32, csT sga sta Ac mc pc Bc kc qc Cc nc rc)] [(.i64, Aa, ma, oa), (.i64, Ba, ka, la), (.u64, Ca, na, fa), (.i64, Ac, mc, oa), (.i64, Bc, kc, la), (.u64, Cc, nc, fa)]), j.W.cell? ⟨bc, 3, none⟩ = some (.slice Bc kc qc) := fun j => (j.h.at_ 1 rfl).cell 3
    have fc4 : ∀ j : In (Its yc [(ba, 28, csT sga sta Aa ma pa Ba ka qa Ca na ra), (bc, 32, csT sga sta Ac mc pc Bc kc qc Cc nc rc)] [(.i64, Aa, ma, oa), (.i64, Ba, ka, la), (.u64, Ca, na, fa), (.i64, Ac, mc, oa), (.i64, Bc, kc, la), (.u64, Cc, nc, fa)]), j.W.cell? ⟨bc, 4, none⟩ = some (.slice Cc nc rc) := fun j => (j.h.at_ 1 rfl).cell 4
    have Q2 := Lib.hid (fun W (hi : Its yc [(ba, 28, csT sga sta Aa ma pa Ba ka qa Ca na ra), (bc, 32, csT sga sta Ac mc pc Bc kc qc Cc nc rc)] [(.i64, Aa, ma, oa), (.i64, Ba, ka, la), (.u64, Ca, na, fa), (.i64, Ac, mc, oa), (.i64, Bc, kc, la), (.u64, Cc, nc, fa)] W) => same_yes sga sta Aa ma pa Ba ka qa Ca na ra Ac mc pc Bc kc qc Cc nc rc oa la fa W (hi.tab 0 rfl rfl rfl) (hi.tab 3 rfl rfl rfl) hm1 hk1 hn1)
    go_wp2_with fail
    refine region_class (Its yc [(ba, 28, csT sga sta Aa ma pa Ba ka qa Ca na ra), (bc, 32, csT sga sta Ac mc pc Bc kc qc Cc nc rc)] [(.i64, Aa, ma, oa), (.i64, Ba, ka, la), (.u64, Ca, na, fa), (.i64, Ac, mc, oa), (.i64, Bc, kc, la), (.u64, Cc, nc, fa)]) (by kernel_rfl) (by kernel_rfl) I.drawn ?_
    repeat (go_big_quiet_step (first
      | (go_at_call 12; with_reducible exact class_call _ (fun hi => its_ge hi (ref_any sga sta Aa ma pa Ba ka qa Ca na ra _)))
      | (go_at_call 11; with_reducible exact class_call _ (fun hi => its_ge hi (Q2.out _ hi)))))
    refine wpQuiet_nil ?_
    rintro _ ⟨j, rfl⟩
    have hb := j.h.b
    clear fa0 fa1 fa2 fa3 fa4 fc0 fc1 fc2 fc3 fc4 Q2 I hne
    replace Kz := Kz.later hb
    replace Kv := Kv.later hb
    replace K5 := K5.later hb
    replace Z6 := Z6.later hb
    replace Z7 := Z7.later hb
    replace tz := tz.later hb
    replace tv := tv.later hb
    replace ta := ta.later hb
    replace Ka := Ka.later hb
    replace tc := tc.later hb
    replace Kc := Kc.later hb
    replace BB := Ge.trans BB hb
    clear hb
    generalize j.W = wt at *
    clear j
    go_wp2_with fail
    refine FreeC.wp_freeC (wl [some (.agg #[.int .i64 sga, .int .i64 sta, .slice Aa ma pa, .slice Ba ka qa, .slice Ca na ra]), some (.agg #[.int .i64 sga, .int .i64 sta, .slice Ac mc pc, .slice Bc kc qc, .slice Cc nc rc]), none, none, some (.bool true)]) (Tw wt (w.heap.size + 1 + 1 + 1) (w.heap.size + 1 + 1 + 1 + 1) (csT sga sta Aa ma pa Ba ka qa Ca na ra) (csT sga sta Ac mc pc Bc kc qc Cc nc rc)) (by kernel_rfl) (by kernel_rfl) (Tw.start Z6 Z7 (by omega)) ?_ ?_
    · refine ⟨?_, ?_, ?_, ?_, ?_, trivial⟩
      · intro listed A0 W hA hno hr K hK
        refine wp_load_row _ (.tmp 9) rfl ba ((hA.kept 9 (Free.not_dst (by kernel_rfl))).trans rfl) _ (csT sga sta Aa ma pa Ba ka qa Ca na ra) (0, 0) _ ((hA.c.r ba (by omega) (by omega)).trans Ka) Try.underlying28 rfl info_t ?_
        exact hK _ _ (hA.c.same 0 (by omega) (by omega)) rfl (fun j u _ _ hu => hu)
      · intro listed A0 W hA hno hr K hK
        refine wp_load_row _ (.tmp 11) rfl bc ((hA.kept 11 (Free.not_dst (by kernel_rfl))).trans rfl) _ (csT sga sta Ac mc pc Bc kc qc Cc nc rc) (0, 0) _ ((hA.c.r bc (by omega) (by omega)).trans Kc) Try.underlying32 rfl info_r ?_
        exact hK _ _ (hA.c.same 1 (by omega) (by omega)) rfl (fun j u _ _ hu => hu)
      · intro listed A0 W hA hno hr K hK
        have hsl := hA.size
        simp at hsl
        refine wp_store_row _ (.tmp 6) (.tmp 74) rfl (w.heap.size + 1 + 1 + 1) (csT sga sta Aa ma pa Ba ka qa Ca na ra) ((hA.kept 6 (Free.not_dst (by kernel_rfl))).trans rfl) (hA.val 0 _ rfl (hr ⟨0, .data⟩ (by simp) rfl)) _ _ (hA.c.p (not_listed (by omega) hno)) info_t rfl (csT_one _ _ _ _ _ _ _ _ _ _ _) ?_
        exact hK undef _ (hA.c.st6 (by omega) (by omega) (not_listed (by omega) hno)) trivial (fun j u _ _ hu => wl_any hu)
      · intro listed A0 W hA hno hr K hK
        have hsl := hA.size
        simp at hsl
        refine wp_store_row _ (.tmp 7) (.tmp 75) rfl (w.heap.size + 1 + 1 + 1 + 1) (csT sga sta Ac mc pc Bc kc qc Cc nc rc) ((hA.kept 7 (Free.not_dst (by kernel_rfl))).trans rfl) (hA.val 1 _ rfl (hr ⟨1, .data⟩ (by simp) rfl)) _ _ (hA.c.q (not_listed (by omega) hno)) info_r rfl (csT_one _ _ _ _ _ _ _ _ _ _ _) ?_
        exact hK undef _ (hA.c.st7 (by omega) (by omega) (not_listed (by omega) hno)) trivial (fun j u _ _ hu => wl_any hu)
      · intro listed A0 W hA hno hr K hK
        simp [go_sem]
        exact hK _ _ (hA.c.same 4 (by omega) (by omega)) rfl (fun j u _ _ hu => hu)
    · intro A0 W hA
      have E6 := hA.c.p' rfl
      have E7 := hA.c.q' rfl
      have BE := Ge.trans2 BB (hA.c.bel w.heap.size (by omega) (by omega))
      have s6 : A0.tmps.getD 6 undef = .pointer (some ⟨w.heap.size + 1 + 1 + 1, 0, none⟩) := (hA.kept 6 (Free.not_dst (by kernel_rfl))).trans rfl
      have s7 : A0.tmps.getD 7 undef = .pointer (some ⟨w.heap.size + 1 + 1 + 1 + 1, 0, none⟩) := (hA.kept 7 (Free.not_dst (by kernel_rfl))).trans rfl
      have s8 : A0.tmps.getD 8 undef = .bool true := hA.val 4 _ rfl rfl
      have hrr := hA.c.r
      have hss := hA.c.s
      have hde := hA.defers
      clear hA
      obtain ⟨tm, de⟩ := A0
      simp only at s6 s7 s8 hde
      subst hde
      go_wp2_with fail
      exact bodyPost_ret (res_do rfl _ _ (w.heap.size + 1 + 1 + 1) (w.heap.size + 1 + 1 + 1 + 1) s6 s7 s8 E6 E7) rfl ⟨sga, sta, Aa, ma, pa, Ba, ka, qa, Ca, na, ra, Ac, mc, pc, Bc, kc, qc, Cc, nc, rc, oa, la, fa, rfl, hu.out, ta.sameF fra hss (fun g hg => hrr g (by omega) (by omega)), tc.sameF frc hss (fun g hg => hrr g (by omega) (by omega)), mpa, (fun g hg => ⟨fun _ => nb3_of hu.out ta fra (by omega), fun _ => nb3_of hu.out tc frc (by omega)⟩), BE⟩
end Go.Proofs.Ytpgbbbgblgkokaa
