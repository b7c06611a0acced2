/- Small laws of rows and texts; Words: the same texts? -/
import Derived.Test.YtjdkgkllgapgjaaJxD
import Derived.BigQuiet
import Derived.Deep.QuietTactic
import Derived.Lib.AppendZeros
namespace Go.Proofs.Ytjdkgkllgapgjaa.Ix
open Go.RowKit Go.Lib
open Re (Rec Key)
open Sp
set_option linter.unusedVariables false
set_option maxRecDepth 100000

abbrev I64 (s : Int) : Prop := -9223372036854775808 ≤ s ∧ s ≤ 9223372036854775807
abbrev enA (a : Nw) : Array Value := #[.int .u64 a.v, .int .u64 a.d, .bool a.b, .int .i64 a.z, .int .i64 a.s, .int .i64 a.p]
theorem row_at {w : World} {v : Value} {e : TypeId} {c n : Nat} {xs : List Value} (h : w.ownsRow 0 e c v n xs) : ∃ A p, v = .slice A n p := by
  rcases h.2 with ⟨rfl, rfl⟩ | ⟨g, cap, cur, rfl, _⟩
  · exact ⟨_, _, rfl⟩
  · exact ⟨_, _, rfl⟩
theorem row_get {w : World} {v : Value} {e : TypeId} {c n : Nat} {xs : List Value} (h : w.ownsRow 0 e c v n xs) (h0 : 0 < n) : ∃ g p, v = .slice (some ⟨g, 0, none⟩) n p ∧ ∀ j u, xs[j]? = some u → w.cell? ⟨g, j, none⟩ = some u := by
  rcases h.2 with ⟨_, rfl⟩ | ⟨g, cap, cur, rfl, _⟩
  · omega
  · refine ⟨g, cap, rfl, fun j u hu => ?_⟩
    have := h.cells rfl j u hu
    rw [show (⟨g, 0, none⟩ : Addr).add j = ⟨g, j, none⟩ by unfold Addr.add; by_cases h : j = 0 <;> simp [h]] at this
    exact this
theorem key_beq {a c : ByteArray} : (a.toList == c.toList) = decide (a.toList = c.toList) := by
  by_cases h : a.toList = c.toList <;> simp [h]
def atV (o : Option Std) : ByteArray := match o with
  | some a => a.i
  | none => ⟨#[]⟩
section
variable {W w w' : World} {items J : List Sp.Item} {k b : Nat} {x : Idx}

theorem get_front2 {y z c : Sp.Item} (h : items[k]? = some y) : (items ++ [z] ++ [c])[k]? = some y := by
  have hk := (List.getElem?_eq_some_iff.1 h).1
  rw [List.getElem?_append_left (by rw [List.length_append]; omega), List.getElem?_append_left hk]
  exact h
theorem last_get {y : Sp.Item} : (J ++ [y])[J.length]? = some y := by
  rw [List.getElem?_append_right (Nat.le_refl _)]
  simp
theorem last_set {y z : Sp.Item} : (J ++ [y]).set J.length z = J ++ [z] := by
  rw [List.set_append_right _ _ (Nat.le_refl _)]
  simp
theorem run_geq {P : Program} (W : World) (t : TypeId) (a c : ByteArray) : (binOp .geq t (.string a) (.string c)).run P W = .ok (.bool (!(Op.bytesLess a.toList c.toList))) W := by
  simp only [binOp, Op.stringOp]
  rfl
theorem set_same {l : List Sp.Item} {k : Nat} {a : Sp.Item} (h : l[k]? = some a) : l.set k a = l := by
  obtain ⟨h1, h2⟩ := List.getElem?_eq_some_iff.1 h
  subst h2
  exact List.set_getElem_self ..
theorem str_eq {a c : ByteArray} (h : a.toList = c.toList) : a = c := by
  rw [Lib.toList_data, Lib.toList_data] at h
  have := Array.toList_inj.1 h
  cases a; cases c
  simpa using this
theorem Good.m {x : Idx} (h : Good x) : x.L.length ≤ 200 := by
  have h1 : (x.L.map Nw.key).Nodup := by
    unfold List.Nodup
    rw [List.pairwise_map]
    refine h.o.imp ?_
    intro a c h2 h3
    rw [h3] at h2
    exact List.lt_irrefl _ h2
  have h2 : x.L.map Nw.key ⊆ x.S.map Std.key := by
    intro k hk
    obtain ⟨a, ha, rfl⟩ := List.mem_map.1 hk
    obtain ⟨c, hc, e1, _⟩ := h.st a ha
    exact List.mem_map.2 ⟨c, hc, by unfold Std.key Nw.key; rw [e1]⟩
  have h3 := List.Nodup.length_le_of_subset h1 h2
  rw [List.length_map, List.length_map] at h3
  exact Nat.le_trans h3 h.n
/-- An entry, or none. -/
def enO (o : Option Nw) : Array Value := match o with
  | some a => enA a
  | none => #[.int .u64 0, .int .u64 0, .bool false, .int .i64 0, .int .i64 0, .int .i64 0]
theorem cnt_take {α : Type} (f : α → Bool) (l : List α) (q : Nat) (a : α) (h : l[q]? = some a) : (l.take (q + 1)).countP f = (l.take q).countP f + if f a then 1 else 0 := by
  rw [List.take_add_one, h, Option.toList_some, List.countP_append, List.countP_singleton]
theorem str_infos : (Try.prog.info? 9).map (fun i => (i.zero, i.size, i.bytes)) = some (some (.string ⟨#[]⟩), 1, 16) := by kernel_rfl
abbrev txI (v : Value) (l : List ByteArray) : Sp.Item := rowS 9 1 v l.length (l.map .string)
/-- Texts that can be read. -/
structure WR (w : World) (v : Value) (l : List ByteArray) : Prop where
  sl : ∃ A p, v = .slice A l.length p
  c : ∀ i a, l[i]? = some a → ∃ g o p, v = .slice (some ⟨g, o, none⟩) l.length p ∧ w.cell? ⟨g, o + i, none⟩ = some (.string a)
theorem WR.of {w : World} {v : Value} {e : TypeId} {l : List ByteArray} (h : w.ownsRow 0 e 1 v l.length (l.map .string)) : WR w v l := by
  refine ⟨row_at h, fun i a hi => ?_⟩
  have h0 := (List.getElem?_eq_some_iff.1 hi).1
  obtain ⟨g, p, hv, hc⟩ := row_get h (by omega)
  exact ⟨g, 0, p, hv, by rw [Nat.zero_add]; exact hc i _ (by rw [List.getElem?_map, hi]; rfl)⟩
theorem WR.later {w w' : World} {v : Value} {l : List ByteArray} (h : WR w v l) (hb : Below w.heap.size w w') : WR w' v l :=
  ⟨h.sl, fun i a hi => by
    obtain ⟨g, o, p, hv, hc⟩ := h.c i a hi
    exact ⟨g, o, p, hv, (hb.cell (World.block_lt_of_cell? _ _ hc)).trans hc⟩⟩
theorem tx_push {v : Value} {l : List ByteArray} (h : Sp.Sep W w (J ++ [txI v l])) (a : ByteArray) (hn : l.length < 1000) : ∃ v' w', (Builtin.append_ #[23, 23] 23 #[v, .slice (some ⟨w.heap.size, 0, none⟩) 1 1]).run Try.prog (w.alloc (.cells #[.string a] 9)) = .ok v' w' ∧ Sp.Sep W w' (J ++ [txI v' (l ++ [a])]) := by
  obtain ⟨v', w', h1, h2⟩ := rows_pushS (k := J.length) (cs := [.string a]) h last_get Try.underlying23 str_infos rfl (by decide) (by decide) hn rfl (by intro u hu; simp only [List.mem_singleton] at hu; subst hu; rfl)
  rw [last_set] at h2
  refine ⟨v', w', h1, ?_⟩
  unfold txI
  rw [List.length_append, List.map_append]
  exact h2
theorem ids_take (l : List Nw) (q : Nat) (a : Nw) (h : l[q]? = some a) : ((l.take (q + 1)).filter Nw.b).map Nw.i = ((l.take q).filter Nw.b).map Nw.i ++ if a.b then [a.i] else [] := by
  rw [List.take_add_one, h, Option.toList_some, List.filter_append, List.map_append]
  cases hb : a.b <;> simp [hb]
theorem bytes_beq {a c : ByteArray} : (a.toList == c.toList) = decide (a = c) := by
  rw [key_beq]
  by_cases h : a = c
  · subst h; simp
  · rw [decide_eq_false h]
    exact decide_eq_false fun e => h (str_eq e)
set_option maxHeartbeats 8000000 in
theorem rwords_any {v v' : Value} {l l' : List ByteArray} (h : WR w v l) (h' : WR w v' l') (hn : l.length ≤ 1000) (hn' : l'.length ≤ 1000) :
    Calls Try.prog 22 #[v, v'] w fun e w' => e = .returned (.bool (decide (l = l'))) ∧ Below w.heap.size w w' := by
  obtain ⟨A, p, rfl⟩ := h.sl
  obtain ⟨A', p', rfl⟩ := h'.sl
  have H := Lib.hid h
  have H' := Lib.hid h'
  by_cases hl : l.length = l'.length
  · obtain ⟨n, hnn⟩ : ∃ n, l.length = n := ⟨_, rfl⟩
    have HL := Lib.hid hnn
    have HL' := Lib.hid (hl.symm.trans hnn)
    have HN := Lib.hid hn
    rw [← hl, hnn]
    clear h h' hn hn' hl hnn
    go_enter Try.func22, Try.ntmps22
    go_upto_region 4 with fail
    have HB0 : Hid (Below w.heap.size w w) := Lib.hid (Below.refl _ _)
    go_loopg [5] n (fun gk s5 wr => ∃ (q : Nat), q ≤ n ∧ gk = n - q ∧ s5 = .int .i64 (q : Nat) ∧ Hid (Below w.heap.size w wr) ∧ Hid (l.take q = l'.take q))
    case atStart => exact ⟨0, by omega, rfl, rfl, HB0, Lib.hid rfl⟩
    case round =>
      obtain ⟨q, hq, hgk, rfl, HB, HA⟩ := hrel
      have HGK := Lib.hid hgk
      clear hgk HB0
      by_cases hlt : q < n
      · have hli : (q : Int) < (n : Int) := by omega
        have wi : IntKind.i64.wrap ((q : Int) + 1) = (q : Int) + 1 := IntWalk.i64_in _ (by have := HN.out; have := HL.out; omega)
        obtain ⟨a, ha⟩ : ∃ a, l[q]? = some a := ⟨_, List.getElem?_eq_getElem (by rw [HL.out]; exact hlt)⟩
        obtain ⟨c, hc⟩ : ∃ c, l'[q]? = some c := ⟨_, List.getElem?_eq_getElem (by rw [HL'.out]; exact hlt)⟩
        obtain ⟨g, o, p1, e1, y1⟩ := (H.out.later HB.out).c q a ha
        obtain ⟨g', o', p1', e1', y1'⟩ := (H'.out.later HB.out).c q c hc
        injection e1 with f1 f2 f3
        injection e1' with f1' f2' f3'
        subst f1 f1'
        have HAA := Lib.hid ha
        have HCC := Lib.hid hc
        have HBD : Hid (∀ k, Below w.heap.size w (wr.drewN k)) := Lib.hid (fun k => Re.below_drewN HB.out k)
        by_cases hac : a = c
        · have hb : (a.toList == c.toList) = true := by rw [bytes_beq]; exact decide_eq_true hac
          have HT : Hid (l.take (q + 1) = l'.take (q + 1)) := Lib.hid (by rw [List.take_add_one, List.take_add_one, ha, hc, HA.out, hac])
          clear ha hc f2 f3 f2' f3' hac
          go_upto_region 6 with fail
          go_quiet (fail)
          have HBQ := Lib.hid (HBD.out nq)
          generalize wr.drewN nq = w3 at *
          go_wp2_with fail
          go_roundg (n - (q + 1))
          case measure => have := HGK.out; omega
          case rel => exact ⟨q + 1, by omega, by have := HGK.out; omega, by go_num, HBQ, HT⟩
        · have hb : (a.toList == c.toList) = false := by rw [bytes_beq]; exact decide_eq_false hac
          have HR : Hid (decide (l = l') = false) := Lib.hid (decide_eq_false fun e => hac (by rw [e, hc] at ha; injection ha with ha; exact ha.symm))
          clear ha hc f2 f3 f2' f3' hac
          go_upto_region 6 with fail
          go_quiet (fail)
          have HBQ := Lib.hid (HBD.out nq)
          generalize wr.drewN nq = w3 at *
          go_wp2_with fail
          go_ret
          exact ⟨by rw [HR.out]; rfl, HBQ.out⟩
      · obtain rfl : q = n := by omega
        have HR : Hid (decide (l = l') = true) := Lib.hid (decide_eq_true (by have := HA.out; rw [List.take_of_length_le (by have := HL.out; omega), List.take_of_length_le (by have := HL'.out; omega)] at this; exact this))
        go_wp2_with fail
        go_ret
        exact ⟨by rw [HR.out]; rfl, HB.out⟩
  · have HR : Hid (decide (l = l') = false) := Lib.hid (decide_eq_false fun e => hl (by rw [e]))
    have hne : ¬ ((l.length : Int) = (l'.length : Int)) := by omega
    have HB : Hid (Below w.heap.size w w) := Lib.hid (Below.refl _ _)
    clear h h' hn hn'
    go_enter Try.func22, Try.ntmps22
    go_wp2_with fail
    go_ret
    exact ⟨by rw [HR.out]; rfl, HB.out⟩
theorem share {P : Program} {Q : Exit → Act → World → Prop} {A : Act} {W5 : World} {c : Code} {a : Act} {w : World} (key : Q Exit.normal A W5) (main : Q Exit.normal A W5 → Code.wp P c Q a w) : Code.wp P c Q a w := main key
end
end Go.Proofs.Ytjdkgkllgapgjaa.Ix
