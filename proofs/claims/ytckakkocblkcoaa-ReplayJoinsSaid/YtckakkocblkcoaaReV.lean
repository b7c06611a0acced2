/- The program's Newest: its loop over the records, which fills a map; by what the call behind it does (SortedC). -/
import Derived.Test.YtckakkocblkcoaaReU
import Derived.Maps.Views
import Derived.Maps.OwnOps
import Derived.Lib.Strings
namespace Go.Proofs.Ytckakkocblkcoaa.Re
open Go.RowKit Go.Lib Go.Maps
open Sp
set_option linter.unusedVariables false
set_option maxRecDepth 100000

/-- How an element of the map reads: as the record that it is. -/
def recR (v : Value) : Option (DataW Rec × List MemPlace) :=
  match v with
  | .agg cs => (match cs.toList with
    | [.int .u64 l, .int .u32 e, .int .i64 k, .int .u64 v, .int .u64 d, .string i, .string a] => some (.held ⟨l, e, k, v, d, i, a⟩, [])
    | _ => none)
  | _ => none
theorem recR_is (r : Rec) : recR (.agg (rcA r)) = some (.held r, []) := rfl
theorem recR_inv {v : Value} {z : DataW Rec × List MemPlace} (h : recR v = some z) : ∃ r, v = .agg (rcA r) ∧ z = (.held r, []) := by
  unfold recR at h
  split at h
  · rename_i cs
    split at h
    · rename_i l e k v d i a hcs
      injection h with h
      refine ⟨⟨l, e, k, v, d, i, a⟩, ?_, h.symm⟩
      rw [show cs = cs.toList.toArray by simp, hcs]
    · cases h
  · cases h
/-- What the map holds: of each id the newest one. -/
structure MapD (D : DataW Rec) (l : List Rec) : Prop where
  m : IsMap D
  at_ : ∀ (x : Key) z, D.atKey (.string x) z = (match best l x with | some r => .held r | none => z)
theorem MapD.nil : MapD (.map []) [] := ⟨isMap_empty, fun x z => rfl⟩
def zR : Rec := ⟨0, 0, 0, 0, 0, ⟨#[]⟩, ⟨#[]⟩⟩
theorem MapD.put {D : DataW Rec} {l : List Rec} (h : MapD D l) {r : Rec} (hl : isL r = true) (hv : ((best l r.key).getD zR).v ≤ r.v) : MapD (D.put (.string r.key) (.held r)) (l ++ [r]) := by
  refine ⟨h.m.put _ _, fun x z => ?_⟩
  rw [best_snoc]
  by_cases e : x = r.key
  · subst e
    rw [atKey_put_same h.m (by simp [WideAt.IsKeyLit])]
    have : one r.key r = some r := by unfold one; rw [if_pos ⟨hl, rfl⟩]
    rw [this]
    cases hb : best l r.key with
    | none => rfl
    | some q =>
      rw [hb] at hv
      have : q.v ≤ r.v := hv
      rw [join_two, if_pos this]
  · rw [atKey_put_other (fun h => e (by injection h))]
    have : one x r = none := by unfold one; rw [if_neg]; exact fun h => e h.2.symm
    rw [this, h.at_]
    cases best l x <;> rfl
theorem MapD.no {D : DataW Rec} {l : List Rec} (h : MapD D l) {r : Rec} (hr : 0 ≤ r.v) (hn : ¬ (isL r = true ∧ ((best l r.key).getD zR).v ≤ r.v)) : MapD D (l ++ [r]) := by
  refine ⟨h.m, fun x z => ?_⟩
  rw [h.at_, best_snoc]
  cases ho : one x r with
  | none => cases best l x <;> rfl
  | some q =>
    obtain ⟨rfl, h1, rfl⟩ := one_some ho
    cases hb : best l q.key with
    | none => exact absurd ⟨h1, by rw [hb]; exact hr⟩ hn
    | some p =>
      rw [hb] at hn
      have : ¬ p.v ≤ q.v := fun h => hn ⟨h1, h⟩
      rw [join_two, if_neg this]
theorem mapLater {H : Type} {P : Program} {k : TypeId} {R : Value → Option (DataW H × List MemPlace)} {w w' : World} {b n : Nat} {D : DataW H} (h : w.ownsMap P k R b n D) (hb : Below w.heap.size w w') : w'.ownsMap P k R b n D := by
  have hlt := h.lt
  obtain ⟨es, clock, h1, h2⟩ := h
  exact ⟨es, clock, (hb.block b hlt).trans h1, h2⟩
/-- What stands in the map at an id. -/
theorem MapD.look {D : DataW Rec} {l : List Rec} (h : MapD D l) (x : Key) : D.atKey (.string x) (.held zR) = .held ((best l x).getD zR) := by
  rw [h.at_]
  cases best l x <;> rfl
theorem key_string {i : ByteArray} (hi : i.size ≤ maxLen) : keyOf Try.prog 9 (.string i) = some (.string i.toList) := by
  simp [keyOf, Try.underlying9, mapKey, hi, Lib.toList_data]
theorem run_lookR {w : World} {b n : Nat} {D : DataW Rec} {l : List Rec} (h : w.ownsMap Try.prog 9 recR b n D) (hD : MapD D l) {i : ByteArray} (hi : i.size ≤ maxLen) :
    (Instr.lookup 52 (.map (some b)) (.string i) false).run Try.prog w = .ok (.agg (rcA ((best l i.toList).getD zR))) w := by
  obtain ⟨v, ps, hrun, hv⟩ := h.lookup (t := 52) (string_keyed Try.underlying9) Try.underlying52 (z := .agg (rcA zR)) (Try.zeroValue42 w) (recR_is zR) (key_string hi)
  obtain ⟨r, rfl, hr⟩ := recR_inv hv
  rw [hD.look] at hr
  injection hr with hr _
  injection hr with hr
  rw [hrun, hr]
/-- What the call behind the loop must do. -/
structure SortedC : Prop where
  at_ : ∀ {w : World} {L : List Rec} {D : DataW Rec} {b nn Bm : Nat}, nn ≤ 200 → Fine L → w.ownsMap Try.prog 9 recR b nn D → MapD D L → Sp.Blk w Bm 52 #[.map (some b)] →
    Calls Try.prog 24 #[.func (.func 31) #[] #[.pointer (some ⟨Bm, 0, none⟩)], .func (.func 26) #[] #[]] w fun e w' =>
      ∃ A' p', e = .returned (.slice A' (newest L).length p') ∧ RR w' A' (newest L).length (newest L) ∧ Below w.heap.size w w'
theorem values_any (b : Nat) (w : World) : Calls Try.prog 25 #[.map (some b)] w fun e w' => e = .returned (.func (.func 31) #[] #[.pointer (some ⟨w.heap.size, 0, none⟩)]) ∧ w.alloc (.cells #[.map (some b)] 52) = w' := by
  have hmf : ∀ (fn : Fn) (first cap : Array Value) (w : World), (Instr.makeFunc fn first cap).run Try.prog w = .ok (.func fn first cap) w := fun _ _ _ _ => rfl
  go_enter Try.func25, Try.ntmps25
  go_wp2_with fail
  go_ret
  exact ⟨rfl, rfl⟩
set_option maxHeartbeats 16000000 in
theorem newest_by (HS : SortedC) {w : World} {A : Option Addr} {n : Nat} (p : Nat) {L : List Rec} (h : RR w A n L) (hn : n ≤ 200) (hf : Fine L) :
    Calls Try.prog 12 #[.slice A n p] w fun e w' => ∃ A' p', e = .returned (.slice A' (newest L).length p') ∧ RR w' A' (newest L).length (newest L) ∧ Below w.heap.size w w' := by
  have HR := Lib.hid h
  have HN := Lib.hid hn
  have HF := Lib.hid hf
  have HSC := Lib.hid HS
  have O0 := Lib.hid (World.ownsMap_made w Try.prog 9 recR)
  have B0 := Lib.hid (below1 w (.map #[] 0))
  clear h hn hf HS
  have hmm : (Instr.makeMap 52 none).run Try.prog w = .ok (.map (some w.heap.size)) (w.alloc (.map #[] 0)) := run_makeMap _ _
  go_enter Try.func12, Try.ntmps12
  go_upto_region 2 with fail
  change Code.wp _ _ _ _ (w.alloc (.map #[] 0))
  clear hmm
  obtain ⟨b, eb⟩ : ∃ z, w.heap.size = z := ⟨_, rfl⟩
  rw [eb] at O0
  have HEB := Lib.hid eb
  rw [eb]
  clear eb
  generalize w.alloc (.map #[] 0) = w1 at *
  go_wp2_with fail
  go_loopg [9] n (fun gk s9 wr => ∃ (i : Nat) (D : DataW Rec), i ≤ n ∧ gk = n - i ∧ s9 = .int .i64 (i : Nat) ∧ Hid (wr.ownsMap Try.prog 9 recR b i D) ∧ Hid (MapD D (L.take i)) ∧ Hid (Below w.heap.size w wr))
  case atStart => exact ⟨0, _, by omega, rfl, rfl, O0, Lib.hid MapD.nil, B0⟩
  case round =>
    obtain ⟨i, D, hi, hgk, rfl, HO, HD, HB⟩ := hrel
    have HGK := Lib.hid hgk
    clear hgk O0 B0
    by_cases hlt : i < n
    · have hli : (i : Int) < (n : Int) := by omega
      obtain ⟨r, hr⟩ : ∃ r, L[i]? = some r := ⟨_, List.getElem?_eq_getElem (by rw [← HR.out.len]; exact hlt)⟩
      obtain ⟨g, o, rfl, hc⟩ := HR.out.rc (by omega)
      have R := (hc i r hr).later HB.out
      have x0 := R.c0
      have x1 := R.c1
      have x2 := R.c2
      have x3 := R.c3
      have x4 := R.c4
      have x5 := R.c5
      have x6 := R.c6
      have wi : IntKind.i64.wrap ((i : Int) + 1) = (i : Int) + 1 := IntWalk.i64_in _ (by have := HN.out; omega)
      have HT := Lib.hid (take_one hr)
      have HRO := Lib.hid (HF.out r (List.mem_of_getElem? hr))
      have O1 := Lib.hid (HO.out.alloc (.cells (rcA r) 42))
      have BB := Lib.hid (HB.out.trans ((below1 wr (.cells (rcA r) 42)).mono HB.out.size))
      have B1 : Sp.Blk (wr.alloc (.cells (rcA r) 42)) wr.heap.size 42 (rcA r) := Sp.Blk.new wr _ _
      have HBR : Hid (b < wr.heap.size) := Lib.hid HO.out.lt
      go_upto_region 5 with fail
      change Code.wp _ _ _ _ (wr.alloc (.cells (rcA r) 42))
      clear x0 x1 x2 x3 x4 x5 x6 R hc HO HB
      have HBK := Lib.hid B1
      clear B1
      generalize wr.alloc (.cells (rcA r) 42) = w2 at *
      obtain ⟨bx, ebx⟩ : ∃ z, wr.heap.size = z := ⟨_, rfl⟩
      rw [ebx] at HBK HBR ⊢
      clear ebx
      have HOF := Lib.hid (ofs_any r)
      obtain ⟨L0, eL0⟩ : ∃ z, L.take i = z := ⟨_, rfl⟩
      rw [eL0] at HD HT
      clear eL0
      have hrun := fun W (hb : Below w2.heap.size w2 W) => run_lookR (mapLater O1.out hb) HD.out HRO.out.i
      have R2 := RC.blk HBK.out
      have x0 := R2.c0
      have x1 := R2.c1
      have x2 := R2.c2
      have x3 := R2.c3
      have x4 := R2.c4
      have x5 := R2.c5
      have x6 := R2.c6
      have HLK := Lib.hid hrun
      clear hrun R2
      cases hl : isL r with
      | false =>
        rw [hl] at HOF
        have HDN := Lib.hid (HD.out.no HRO.out.v.1 (r := r) (fun h => by rw [hl] at h; cases h.1))
        rw [← HT.out] at HDN
        go_wp2_with fail
        refine (HOF.out _).mono ?_
        rintro e' w3 ⟨rfl, hb3⟩
        have O3 := Lib.hid ((mapLater O1.out hb3).mono (Nat.le_succ i))
        have B3 := Lib.hid (BB.out.trans (hb3.mono BB.out.size))
        clear hb3 x0 x1 x2 x3 x4 x5 x6
        go_wp2_with fail
        go_roundg (n - (i + 1))
        case measure => have := HGK.out; omega
        case rel => exact ⟨i + 1, D, by omega, by have := HGK.out; omega, by go_num, O3, HDN, B3⟩
      | true =>
        rw [hl] at HOF
        go_wp2_with fail
        refine (HOF.out _).mono ?_
        rintro e' w3 ⟨rfl, hb3⟩
        have hrun := HLK.out w3 hb3
        have R3 := (RC.blk HBK.out).later hb3
        have O3 := Lib.hid (mapLater O1.out hb3)
        have B3 := Lib.hid (BB.out.trans (hb3.mono BB.out.size))
        clear hb3 x0 x1 x2 x3 x4 x5 x6 HLK
        have x0 := R3.c0
        have x1 := R3.c1
        have x2 := R3.c2
        have x3 := R3.c3
        have x4 := R3.c4
        have x5 := R3.c5
        have x6 := R3.c6
        clear R3
        obtain ⟨q, eq⟩ : ∃ q, (best L0 r.i.toList).getD zR = q := ⟨_, rfl⟩
        rw [eq] at hrun
        replace hrun : (Instr.lookup 52 (.map (some b)) (.string r.i) false).run Try.prog w3 = .ok (.agg #[.int .u64 q.l, .int .u32 q.e, .int .i64 q.k, .int .u64 q.v, .int .u64 q.d, .string q.i, .string q.a]) w3 := hrun
        have HQ := Lib.hid eq
        have hfd : ∀ w : World, (Instr.field 42 (.agg #[.int .u64 q.l, .int .u32 q.e, .int .i64 q.k, .int .u64 q.v, .int .u64 q.d, .string q.i, .string q.a]) 3).run Try.prog w = .ok (.int .u64 q.v) w := fun _ => by kernel_rfl
        clear eq
        by_cases hv : q.v ≤ r.v
        · have HDN : Hid (MapD (D.put (.string r.i.toList) (.held r)) (L.take (i + 1))) := Lib.hid (by rw [HT.out]; exact HD.out.put hl (by rw [show r.key = r.i.toList from rfl, HQ.out]; exact hv))
          have HKY := Lib.hid (key_string HRO.out.i)
          have HRC := Lib.hid (recR_is r)
          go_wp2_with (at_mapUpdate; refine wpList_mapUpdate_own _ rfl _ _ _ 52 rfl 9 42 (string_keyed Try.underlying9) Try.underlying52 recR b i D rfl O3.out (by have := HN.out; unfold maxLen; omega) _ _ (.string r.i.toList) rfl rfl HKY.out (.held r) [] HRC.out ?_; intro w4 own4 grow4; have O4 := Lib.hid own4; have G4 := Lib.hid grow4; clear own4 grow4)
          have B4 : Hid (Below w.heap.size w w4) := Lib.hid (B3.out.grown G4.out (by have := HEB.out; have := B3.out.size; omega) (fun k e => by cases e; exact (Nat.le_of_eq HEB.out)))
          clear x0 x1 x2 x3 x4 x5 x6 hrun
          go_wp2_with fail
          go_roundg (n - (i + 1))
          case measure => have := HGK.out; omega
          case rel => exact ⟨i + 1, _, by omega, by have := HGK.out; omega, by go_num, O4, HDN, B4⟩
        · have HDN : Hid (MapD D (L.take (i + 1))) := Lib.hid (by rw [HT.out]; exact HD.out.no HRO.out.v.1 (fun h => by have h2 := h.2; rw [show r.key = r.i.toList from rfl, HQ.out] at h2; exact hv h2))
          have O4 := Lib.hid (O3.out.mono (Nat.le_succ i))
          go_wp2_with fail
          go_roundg (n - (i + 1))
          case measure => have := HGK.out; omega
          case rel => exact ⟨i + 1, D, by omega, by have := HGK.out; omega, by go_num, O4, HDN, B3⟩
    · obtain rfl : n = i := by omega
      have hti : L.take n = L := by rw [HR.out.len, List.take_length]
      rw [hti] at HD
      have BK : Sp.Blk (wr.alloc (.cells #[.map (some b)] 52)) wr.heap.size 52 #[.map (some b)] := Sp.Blk.new wr _ _
      have HB1 := Lib.hid (HB.out.trans ((below1 wr (.cells #[.map (some b)] 52)).mono HB.out.size))
      have C1 := Lib.hid (HSC.out.at_ HN.out HF.out (HO.out.alloc (.cells #[.map (some b)] 52)) HD.out BK)
      clear HO HB BK hti
      go_wp2_with (go_at_call 25; refine (values_any b _).mono ?_; rintro e' w' ⟨rfl, rfl⟩)
      refine C1.out.mono ?_
      rintro e' w3 ⟨A', p', rfl, hr, hb⟩
      have HF3 := Lib.hid hr
      have HB3 := Lib.hid (HB1.out.trans (hb.mono HB1.out.size))
      clear hr hb
      go_wp2_with fail
      go_ret
      first | exact ⟨A', p', rfl, HF3.out, HB3.out⟩ | exact ⟨A', ⟨p', rfl⟩, HF3.out, HB3.out⟩
end Go.Proofs.Ytckakkocblkcoaa.Re
