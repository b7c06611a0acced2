/- The program's index as an item; its calls that only tell, New, Kill. -/
import Derived.Test.YtjdkgkllgapgjaaPxK
import Derived.Test.YtjdkgkllgapgjaaJxK
namespace Go.Proofs.Ytjdkgkllgapgjaa.Px
open Go.RowKit Go.Lib Go.Maps
open Re (Rec Key new_cells rcA isL below_drewN key_total)
open Ix
open Sp
set_option linter.unusedVariables false
set_option linter.unusedSimpArgs false
set_option maxRecDepth 100000

def XI (g : Nat) (x : Idx) : Sp.Item :=
  ⟨fun w G => ∃ t : St, (t.g = g ∧ Stn t x.S noX ∧ Ent t x.L) ∧ (mI t).holds w G,
   fun ⟨t, h1, h2⟩ hs hz => ⟨t, h1, (mI t).stable h2 hs hz⟩,
   fun ⟨t, h1, h2⟩ b hb => (mI t).lt h2 b hb⟩
section
variable {W w w' : World} {items : List Sp.Item} {k g : Nat} {x : Idx} {t : St}
theorem XI_open (h : Sp.Sep W w items) (hk : items[k]? = some (XI g x)) : ∃ t : St, t.g = g ∧ Stn t x.S noX ∧ Ent t x.L ∧ Sp.Sep W w (items.set k (mI t)) := by
  obtain ⟨G, ⟨t, ⟨h1, h2, h3⟩, h4⟩, _, _, put⟩ := h.at_ k hk
  exact ⟨t, h1, h2, h3, put w G _ h4 (Grew.refl _ _) (Only.refl _ _)⟩
theorem XI_shut {S : List Std} {L : List Nw} (h : Sp.Sep W w items) (hk : items[k]? = some (mI t)) (hS : Stn t S noX) (hE : Ent t L) : Sp.Sep W w (items.set k (XI t.g ⟨S, L⟩)) := by
  obtain ⟨G, h4, _, _, put⟩ := h.at_ k hk
  exact put w G _ ⟨t, ⟨rfl, hS, hE⟩, h4⟩ (Grew.refl _ _) (Only.refl _ _)
theorem ne_any (i : ByteArray) (h : Sp.Sep W w items) (hk : items[k]? = some (XI g x)) (hG : Ix.Good x) (hi : i.size ≤ maxLen) :
    Calls Try.prog 11 #[.pointer (some ⟨g, 0, none⟩), .string i] w fun e w' => e = .returned (.tuple #[.agg (enO (fndX x i.toList)), .bool (fndX x i.toList).isSome]) ∧ Below w.heap.size w w' := by
  obtain ⟨t, rfl, hS, hE, h1⟩ := XI_open h hk
  have := pnewest_any h1 (set_at hk _) hi
  rw [hE.nw] at this
  exact this
theorem at_any (s p : Int) (h : Sp.Sep W w items) (hk : items[k]? = some (XI g x)) (hG : Ix.Good x) (hs : I64 s) (hp : I64 p) :
    Calls Try.prog 12 #[.pointer (some ⟨g, 0, none⟩), .agg #[.int .i64 s, .int .i64 p]] w fun e w' => e = .returned (.tuple #[.string (atV (atX x s p)), .bool (atX x s p).isSome]) ∧ Below w.heap.size w w' := by
  obtain ⟨t, rfl, hS, hE, h1⟩ := XI_open h hk
  have := pat_any h1 (set_at hk _) hs hp
  rw [hS.fp s p hs hp, Option.isSome_map] at this
  rw [show strO ((x.S.find? (isAt s p)).map fun a => .string a.i) = .string (atV (atX x s p)) by
    unfold atX
    cases x.S.find? (isAt s p) <;> rfl] at this
  exact this
theorem lv_any (h : Sp.Sep W w items) (hk : items[k]? = some (XI g x)) (hG : Ix.Good x) :
    Calls Try.prog 13 #[.pointer (some ⟨g, 0, none⟩)] w fun e w' => e = .returned (.int .i64 ((idsX x).length : Nat)) ∧ Below w.heap.size w w' := by
  obtain ⟨t, rfl, hS, hE, h1⟩ := XI_open h hk
  have := plives_any h1 (set_at hk _)
  rw [hE.lv] at this
  rw [show (idsX x).length = x.L.countP Nw.b by unfold idsX; rw [List.length_map, List.countP_eq_length_filter]]
  exact this
theorem no_ent (hG : Ix.Good x) (hS : Stn t x.S noX) {s : Int} (hq : ¬ (t.q s).isSome = true) : ∀ a ∈ x.L, ¬ a.s = s := fun a ha e => by
  obtain ⟨c, hc, _, h2, _⟩ := hG.st a ha
  exact hq ((hS.q s id).2 ⟨c, hc, by rw [h2, e]⟩)
theorem has_q (hG : Ix.Good x) (hS : Stn t x.S noX) : ∀ a ∈ x.L, (t.q a.s).isSome = true := fun a ha => by
  obtain ⟨c, hc, _, h2, _⟩ := hG.st a ha
  exact (hS.q _ id).2 ⟨c, hc, h2⟩
theorem in_any (s : Int) (h : Sp.Sep W w items) (hk : items[k]? = some (XI g x)) (hG : Ix.Good x) (hs : I64 s) :
    Calls Try.prog 9 #[.pointer (some ⟨g, 0, none⟩), .int .i64 s] w fun e w' => e = .returned (.tuple #[.int .i64 (inN x s : Nat), .int .i64 (inL x s : Nat), .int .i64 (inZ x s)]) ∧ Below w.heap.size w w' := by
  obtain ⟨t, rfl, hS, hE, h1⟩ := XI_open h hk
  have := pin_any h1 (set_at hk _) hs
  by_cases hq : (t.q s).isSome = true
  · rw [if_pos hq, hE.nn s hq, hE.nl s hq, hE.nz s hq] at this
    exact this
  · have hno := no_ent hG hS hq
    rw [if_neg hq] at this
    rw [show inN x s = 0 from List.countP_eq_zero.2 fun a ha => by simp [hno a ha], show inL x s = 0 from List.countP_eq_zero.2 fun a ha => by simp [hno a ha],
      show inZ x s = 0 by unfold inZ; rw [List.filter_eq_nil_iff.2 fun a ha => by simp [hno a ha]]; rfl]
    exact this
theorem oth_sum (S : List Std) (s : Int) (k : Key) : cntK S k = cntS S s k + S.countP fun a => decide (a.key = k) && decide (a.s ≠ s) := by
  unfold cntK cntS
  induction S with
  | nil => rfl
  | cons a S ih =>
    rw [List.countP_cons, List.countP_cons, List.countP_cons, ih]
    by_cases h1 : a.key = k <;> by_cases h2 : a.s = s <;> simp [h1, h2] <;> omega
theorem ot_any (i : ByteArray) (s : Int) (h : Sp.Sep W w items) (hk : items[k]? = some (XI g x)) (hG : Ix.Good x) (hi : i.size ≤ maxLen) (hs : I64 s) :
    Calls Try.prog 16 #[.pointer (some ⟨g, 0, none⟩), .string i, .int .i64 s] w fun e w' => e = .returned (.int .i64 (othX x i.toList s : Nat)) ∧ Below w.heap.size w w' := by
  obtain ⟨t, rfl, hS, hE, h1⟩ := XI_open h hk
  have hsum := oth_sum x.S s i.toList
  have hle : cntK x.S i.toList ≤ x.S.length := List.countP_le_length
  have hn := hG.n
  by_cases hq : (t.q s).isSome = true
  · have e1 : (t.fc i.toList).getD 0 - (t.sc s i.toList).getD 0 = (othX x i.toList s : Nat) := by
      rw [hS.fc, hS.sc s _ id hq, cnt0_get, cnt0_get]
      unfold othX
      omega
    have := poth_any h1 (set_at hk _) hi hs (fun _ => by rw [e1]; exact IntWalk.i64_in _ (by unfold othX; omega))
    rw [if_pos hq, e1] at this
    exact this
  · have hno : cntS x.S s i.toList = 0 := List.countP_eq_zero.2 fun a ha => by
      have : ¬ a.s = s := fun e => hq ((hS.q s id).2 ⟨a, ha, e⟩)
      simp [this]
    have := poth_any h1 (set_at hk _) hi hs (fun h9 => absurd h9 hq)
    rw [if_neg hq, hS.fc, cnt0_get, hsum, hno, Nat.zero_add] at this
    exact this
def t0 (n : Nat) : St := ⟨n + 4, n, n + 1, n + 2, n + 3, fun _ => none, fun _ => none, fun _ => [], fun _ _ => none, fun _ => none, fun _ => none, fun _ => 0, fun _ => 0, fun _ => 0, 0⟩
theorem MF.alloc {kt : TypeId} {b : Nat} {f : Lit → Option Value} (h : MF w kt b f) (o : Obj) : MF (w.alloc o) kt b f := h.same (Below.heap_alloc _ _ _ h.lt)
theorem new_mem (w : World) : MemX (((((w.alloc (.map #[] 0)).alloc (.map #[] 0)).alloc (.map #[] 0)).alloc (.map #[] 0)).alloc (.cells (ixC (t0 w.heap.size)) 58)) (t0 w.heap.size) := by
  obtain ⟨n, hn⟩ : ∃ n, w.heap.size = n := ⟨_, rfl⟩
  have e1 : (w.alloc (.map #[] 0)).heap.size = n + 1 := by rw [← hn]; simp
  have e2 : ((w.alloc (.map #[] 0)).alloc (.map #[] 0)).heap.size = n + 2 := by rw [← hn]; simp
  have e3 : (((w.alloc (.map #[] 0)).alloc (.map #[] 0)).alloc (.map #[] 0)).heap.size = n + 3 := by rw [← hn]; simp
  have e4 : ((((w.alloc (.map #[] 0)).alloc (.map #[] 0)).alloc (.map #[] 0)).alloc (.map #[] 0)).heap.size = n + 4 := by rw [← hn]; simp
  have m1 := ((((MF.made w 32).alloc (.map #[] 0)).alloc (.map #[] 0)).alloc (.map #[] 0)).alloc (.cells (ixC (t0 n)) 58)
  have m2 := (((MF.made (w.alloc (.map #[] 0)) 3).alloc (.map #[] 0)).alloc (.map #[] 0)).alloc (.cells (ixC (t0 n)) 58)
  have m3 := ((MF.made ((w.alloc (.map #[] 0)).alloc (.map #[] 0)) 9).alloc (.map #[] 0)).alloc (.cells (ixC (t0 n)) 58)
  have m4 := (MF.made (((w.alloc (.map #[] 0)).alloc (.map #[] 0)).alloc (.map #[] 0)) 9).alloc (.cells (ixC (t0 n)) 58)
  rw [hn] at m1
  rw [e1] at m2
  rw [e2] at m3
  rw [e3] at m4
  rw [hn]
  refine ⟨fun r => ?_, fun r r' b h1 h2 => ?_⟩
  · cases r with
    | g => exact Sp.Blk.at_ _ _ _ e4
    | p => exact m1
    | s => exact m2.ext fun x => by unfold iF; split <;> rfl
    | c => exact m3.ext fun x => by unfold sF; split <;> rfl
    | n => exact m4.ext fun x => by unfold sF; split <;> rfl
    | b s => intro e he; cases he
    | m s => intro e he; cases he
    | r s => intro e he; cases he
  · cases r <;> cases r' <;> simp only [St.at_, t0, Option.some.injEq, Option.map_none, Option.bind_none, reduceCtorEq] at h1 h2 <;> first | rfl | omega
theorem new_any (h : Sp.Sep W w items) : Calls Try.prog 17 #[] w fun e w' => ∃ g, e = .returned (.pointer (some ⟨g, 0, none⟩)) ∧ Sp.Sep W w' (items ++ [XI g ⟨[], []⟩]) := by
  have hm1 : ∀ w : World, (Instr.makeMap 53 none).run Try.prog w = .ok (.map (some w.heap.size)) (w.alloc (.map #[] 0)) := fun _ => run_makeMap _ _
  have hm2 : ∀ w : World, (Instr.makeMap 54 none).run Try.prog w = .ok (.map (some w.heap.size)) (w.alloc (.map #[] 0)) := fun _ => run_makeMap _ _
  have hm3 : ∀ w : World, (Instr.makeMap 55 none).run Try.prog w = .ok (.map (some w.heap.size)) (w.alloc (.map #[] 0)) := fun _ => run_makeMap _ _
  have hm4 : ∀ w : World, (Instr.makeMap 56 none).run Try.prog w = .ok (.map (some w.heap.size)) (w.alloc (.map #[] 0)) := fun _ => run_makeMap _ _
  have HS := Lib.hid h
  clear h
  go_enter Try.func17, Try.ntmps17
  go_wp2_with fail
  go_ret
  refine ⟨w.heap.size + 4, rfl, ?_⟩
  have hm := new_mem w
  refine HS.out.new (XI _ ⟨[], []⟩) (G := (t0 w.heap.size).foot) ⟨t0 w.heap.size, ⟨rfl, ?_, ?_⟩, hm, fun b => Iff.rfl⟩ (fun b hb => ?_) ?_
  · exact ⟨fun _ _ _ _ => rfl, fun _ h => absurd rfl h, fun a ha => (by cases ha), fun s _ => ⟨fun h => (by cases h), fun ⟨a, ha, _⟩ => (by cases ha)⟩, fun _ h => absurd h id, fun _ _ h => (by cases h), fun _ _ _ h => (by cases h), fun _ => rfl⟩
  · exact ⟨fun _ => rfl, fun _ h => (by cases h), fun _ h => (by cases h), fun _ h => (by cases h), rfl⟩
  · obtain ⟨r, hr⟩ := hb
    cases r <;> simp only [St.at_, t0, Option.some.injEq, Option.map_none, Option.bind_none, reduceCtorEq] at hr <;> omega
  · exact ((((((Below.refl w.heap.size w).alloc (Nat.le_refl _) (.map #[] 0)).alloc (by simp) (.map #[] 0)).alloc (by simp; omega) (.map #[] 0)).alloc (by simp; omega) (.map #[] 0)).alloc (by simp; omega) _)
set_option maxHeartbeats 4000000 in
theorem kl_any (i : ByteArray) (h : Sp.Sep W w items) (hk : items[k]? = some (XI g x)) (hG : Ix.Good x) (hi : i.size ≤ maxLen) :
    Calls Try.prog 8 #[.pointer (some ⟨g, 0, none⟩), .string i] w fun e w' => e = .returned (.bool (liveX x i.toList)) ∧ Sp.Sep W w' (items.set k (XI g (killX x i.toList))) := by
  obtain ⟨t, rfl, hS, hE, h1⟩ := XI_open h hk
  have hk1 := set_at hk (mI t)
  have x3 := ix3 h1 hk1
  have hl := (n_look h1 hk1 hi).2
  have hnw : t.nw i.toList = fndX x i.toList := hE.nw _
  rw [hnw] at hl
  cases hf : fndX x i.toList with
  | none =>
    rw [hf] at hl
    change _ = Result.ok (Value.agg #[.int .u64 0, .int .u64 0, .bool false, .int .i64 0, .int .i64 0, .int .i64 0]) w at hl
    have HR : Hid (liveX x i.toList = false ∧ killX x i.toList = x) := Lib.hid ⟨by unfold liveX; rw [hf], by unfold killX; rw [hf]⟩
    have HS := Lib.hid h
    have HK := Lib.hid hk
    clear h hk hG hi hS hE h1 hk1 hnw hf
    go_enter Try.func8, Try.ntmps8
    go_wp2_with fail
    go_ret
    rw [HR.out.1, HR.out.2, set_same HK.out]
    exact ⟨rfl, HS.out.alloc _⟩
  | some a =>
    rw [hf] at hl
    change _ = Result.ok (Value.agg (enA a)) w at hl
    obtain ⟨ha, hak⟩ := fnd_some hf
    by_cases hb : a.b = true
    · have hlen := hG.m
      have hz : ∀ b ∈ x.L, 0 ≤ b.z ∧ b.z ≤ 191 := fun b hb => by have := hG.z b hb; omega
      have hq := has_q hG hS
      have hrg : I64 a.s := by
        obtain ⟨c, hc, _, h2, _⟩ := hG.st a ha
        rw [← h2]
        exact (hS.rg c hc).1
      have hE2 := hE.unset hG.o i.toList hq
      have hF1 : ∀ b, t.nw i.toList = some b → Fine t b (-1) := fun b hb => by
        rw [hnw, hf] at hb
        injection hb with hb
        subst hb
        exact fine_gen hE (by omega) hz a (hq a ha) hrg (hz a ha) _ (.inr rfl)
      have hF2 : Fine (unsT t i.toList) (kill1 a) 1 := by
        refine fine_gen hE2 (Nat.le_trans (List.length_filter_le _ _) (by omega)) (fun b hb => hz b (List.mem_filter.1 hb).1) (kill1 a) ?_ hrg (hz a ha) _ (.inl rfl)
        rw [(uns_g t i.toList).2.1]
        exact hq a ha
      have hsupp : ∀ k, t.nw k ≠ none → k ∈ x.L.map Nw.key := fun k hk => by
        rw [hE.nw] at hk
        cases hf : x.L.find? fun a => decide (a.key = k) with
        | none => exact absurd hf hk
        | some b =>
          obtain ⟨h1, h2⟩ := fnd_some (x := x) hf
          exact List.mem_map.2 ⟨b, h1, h2⟩
      have HSET := Lib.hid (set_any (h1.alloc (.cells #[.int .u64 a.v, .int .u64 a.d, .bool false, .int .i64 a.z, .int .i64 a.s, .int .i64 a.p] 34)) hk1 hi hF1 (kill1 a) hF2 hsupp (by rw [List.length_map]; omega))
      have hES : Ent (setT t i.toList (kill1 a)) (setL (kill1 a) x.L) := by
        rw [← hak]
        exact hE.set hG.o (kill1 a) hq (hq a ha)
      have hSS := hS.set i.toList (kill1 a)
      have HR : Hid (liveX x i.toList = true ∧ killX x i.toList = ⟨x.S, setL (kill1 a) x.L⟩) := Lib.hid ⟨by unfold liveX; rw [hf]; exact hb, by unfold killX; rw [hf]; simp only; rw [if_pos hb]⟩
      have HFIN : Hid (∀ w', Sp.Sep W w' ((items.set k (mI t)).set k (mI (setT t i.toList (kill1 a)))) → Sp.Sep W w' (items.set k (XI t.g ⟨x.S, setL (kill1 a) x.L⟩))) := Lib.hid (fun w' h9 => by
        have := XI_shut h9 (set_at hk1 _) hSS hES
        rw [List.set_set, List.set_set, (set_g t i.toList (kill1 a)).1] at this
        exact this)
      change _ = Result.ok (Value.agg #[.int .u64 a.v, .int .u64 a.d, .bool a.b, .int .i64 a.z, .int .i64 a.s, .int .i64 a.p]) w at hl
      rw [hb] at hl
      clear h hk hG hi hS hE h1 hk1 hnw hf hlen hz hq hrg hE2 hF1 hF2 hsupp hES hSS ha hak
      go_enter Try.func8, Try.ntmps8
      go_wp2_with (go_at_call 20; refine HSET.out.mono ?_; rintro e8 w8 ⟨rfl, h8⟩; have H8 := Lib.hid h8; clear h8)
      go_ret
      rw [HR.out.1, HR.out.2]
      exact ⟨rfl, HFIN.out _ H8.out⟩
    · have hb' : a.b = false := by simpa using hb
      have HR : Hid (liveX x i.toList = false ∧ killX x i.toList = x) := Lib.hid ⟨by unfold liveX; rw [hf]; exact hb', by unfold killX; rw [hf]; simp only; rw [if_neg hb]⟩
      have HS := Lib.hid h
      have HK := Lib.hid hk
      change _ = Result.ok (Value.agg #[.int .u64 a.v, .int .u64 a.d, .bool a.b, .int .i64 a.z, .int .i64 a.s, .int .i64 a.p]) w at hl
      rw [hb'] at hl
      clear h hk hG hi hS hE h1 hk1 hnw hf ha hak hb
      go_enter Try.func8, Try.ntmps8
      go_wp2_with fail
      go_ret
      rw [HR.out.1, HR.out.2, set_same HK.out]
      exact ⟨rfl, HS.out.alloc _⟩
end
end Go.Proofs.Ytjdkgkllgapgjaa.Px
