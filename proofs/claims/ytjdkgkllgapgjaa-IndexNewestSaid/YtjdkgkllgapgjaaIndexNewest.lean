/- For all inputs the statement IndexNewest about index returns true, and changes nothing. Conditions: none. -/
import Derived.Test.YtjdkgkllgapgjaaJxN
import Derived.Test.YtjdkgkllgapgjaaClass
import Derived.Deep.RegionWith
import Derived.Test.YtjdkgkllgapgjaaJxO
import Derived.Test.YtjdkgkllgapgjaaMem
import Derived.ProofKit
import Derived.OpenShut
import Derived.ShutString
import Derived.SizedLaws
namespace Go.Proofs.Ytjdkgkllgapgjaa.indexNewest
open Go.ChangeShapes Go.WideShapes Go.ChangeAt Go.RowKit Go.Lib Go.MapKept
open Go.ChangeMaps (open_string shut_string)
set_option linter.unusedVariables false
set_option linter.unusedSimpArgs false

theorem own : ownKnob Try.prog.godebug = none := by kernel_rfl
theorem laid : laidOutB Try.prog = true := by kernel_rfl

set_option maxRecDepth 100000
open Ix Sp
open Re (Rec Key isL rcA RR RC cut80 cutR ROk)
set_option maxHeartbeats 32000000 in
theorem walk {XI : Nat → Idx → Sp.Item} (P : Prg XI) (A : Option Addr) (n c : Nat) (L : List Rec) (w : World) (hR : RR w A n L) (hn : n ≤ maxLen) (hf : ∀ r ∈ L, ROk r) :
    Calls Try.prog 4 #[.slice A n c] w fun e w' => e = .returned (.bool true) ∧ Below w.heap.size w w' := by
  have HP := Lib.hid P
  have HR := Lib.hid hR
  have HF := Lib.hid hf
  have HML := Lib.hid hn
  have HLEN := Lib.hid hR.len
  obtain ⟨m, hm⟩ : ∃ m, min n 40 = m := ⟨_, rfl⟩
  have HM := Lib.hid hm
  have HFL := Lib.hid (filled_any (p := c) P (Sp.Sep.nil (Below.refl w.heap.size w)) hR hf hn)
  rw [hm] at HFL
  obtain ⟨x, hx⟩ : ∃ x, flN L m = x := ⟨_, rfl⟩
  have HX := Lib.hid hx
  rw [hx] at HFL
  have HG : Hid (Ix.Good x) := Lib.hid (by rw [← hx]; exact (fl_good hf m (by omega)).1)
  clear P hR hf hn hm hx
  go_enter Try.func4, Try.ntmps4
  go_upto_region 5 with (first
    | (go_at_call 7; refine HFL.out.mono ?_; rintro e3 w3 ⟨g, rfl, h3⟩; have H3 := Lib.hid h3; clear h3))
  clear HFL
  go_loopg [4] m (fun gk s4 wr => ∃ (q : Nat), q ≤ m ∧ gk = m - q ∧ s4 = .int .i64 (q : Nat) ∧ Hid (Sp.Sep w wr [XI g x]))
  case atStart => exact ⟨0, by omega, rfl, rfl, H3⟩
  case round =>
    obtain ⟨q, hq, hgk, rfl, HS⟩ := hrel
    have HGK := Lib.hid hgk
    clear hgk H3
    by_cases hlt : q < m
    · have hl1 : (q : Int) < (n : Int) := by have := HM.out; omega
      have hl2 : (q : Int) < 40 := by have := HM.out; omega
      have wi : IntKind.i64.wrap ((q : Int) + 1) = (q : Int) + 1 := IntWalk.i64_in _ (by omega)
      obtain ⟨r, hr⟩ : ∃ r, L[q]? = some r := ⟨_, List.getElem?_eq_getElem (by have := HLEN.out; have := HM.out; omega)⟩
      obtain ⟨g2, o, rfl, hc⟩ := (HR.out.later HS.out.below).rc (by have := HM.out; omega)
      have C := hc q r hr
      have y0 := C.c0
      have y1 := C.c1
      have y2 := C.c2
      have y3 := C.c3
      have y4 := C.c4
      have y5 := C.c5
      have y6 := C.c6
      have hrk := HF.out r (List.mem_of_getElem? hr)
      have HC := Lib.hid (Re.lawcut_any r.l r.e r.k r.v r.d r.i r.a wr hrk.i hrk.a)
      have HRQ := Lib.hid hr
      clear hc C hrk hr
      go_upto_region 10 with (first
        | (go_at_call 15; refine HC.out.mono ?_; rintro e5 w5 ⟨rfl, hb5⟩; have H5 := Lib.hid (HS.out.later hb5); clear hb5))
      obtain ⟨key, hkey⟩ : ∃ key, (cutR r).key = key := ⟨_, rfl⟩
      have HKEY := Lib.hid hkey
      have h6 := loc_alloc H5.out 44 (rcA (cutR r))
      obtain ⟨nb, hnb⟩ : ∃ nb, w5.heap.size = nb := ⟨_, rfl⟩
      rw [hnb] at h6
      rw [hnb]
      have H6 : Hid (Sp.Sep w (w5.alloc (.cells #[.int .u64 r.l, .int .u32 r.e, .int .i64 r.k, .int .u64 r.v, .int .u64 r.d, .string (cut80 r.i), .string (cut80 r.a)] 44)) [XI g x, locI [(nb, 44, rcA (cutR r))]]) := Lib.hid h6
      clear h6 y0 y1 y2 y3 y4 y5 y6 hkey HC hnb
      generalize w5.alloc (.cells #[.int .u64 r.l, .int .u32 r.e, .int .i64 r.k, .int .u64 r.v, .int .u64 r.d, .string (cut80 r.i), .string (cut80 r.a)] 44) = w6 at *
      go_loopg [6, 7, 8] m (fun gk s6 s7 s8 wr => ∃ (k : Nat), k ≤ m ∧ gk = m - k ∧ s6 = .int .i64 (bz (bestN L key k)) ∧ s7 = .int .i64 (manyN L key k : Nat) ∧ s8 = .int .i64 (k : Nat) ∧ Hid (Sp.Sep w wr [XI g x, locI [(nb, 44, rcA (cutR r))]]))
      case atStart => exact ⟨0, by omega, rfl, rfl, rfl, rfl, H6⟩
      case round =>
        obtain ⟨k, hk, hgk2, rfl, rfl, rfl, HS2⟩ := hrel
        have HGK2 := Lib.hid hgk2
        clear hgk2 H6
        by_cases hlt2 : k < m
        · have hl3 : (k : Int) < (n : Int) := by have := HM.out; omega
          have hl4 : (k : Int) < 40 := by have := HM.out; omega
          have wi2 : IntKind.i64.wrap ((k : Int) + 1) = (k : Int) + 1 := IntWalk.i64_in _ (by omega)
          have wm : IntKind.i64.wrap ((manyN L key k : Nat) + 1 : Int) = (manyN L key k : Nat) + 1 := IntWalk.i64_in _ (by have := many_le L key k; omega)
          obtain ⟨b, hb⟩ : ∃ b, L[k]? = some b := ⟨_, List.getElem?_eq_getElem (by have := HLEN.out; have := HM.out; omega)⟩
          have HBK := Lib.hid hb
          obtain ⟨g3, o3, e3, hc3⟩ := (HR.out.later HS2.out.below).rc (by have := HM.out; omega)
          injection e3 with e3
          injection e3 with e31 e32 _
          subst e31
          subst e32
          have C := hc3 k b hb
          have y0 := C.c0
          have y1 := C.c1
          have y2 := C.c2
          have y3 := C.c3
          have y4 := C.c4
          have y5 := C.c5
          have y6 := C.c6
          have hrk := HF.out b (List.mem_of_getElem? hb)
          have HC := Lib.hid (Re.lawcut_any b.l b.e b.k b.v b.d b.i b.a wr hrk.i hrk.a)
          clear hc3 C hrk hb
          go_upto_region 13 with (first
            | (go_at_call 15; refine HC.out.mono ?_; rintro e7 w7 ⟨rfl, hb7⟩; have H7 := Lib.hid (HS2.out.later hb7); clear hb7))
          have h8 := loc_alloc H7.out 44 (rcA (cutR b))
          obtain ⟨ny, hny⟩ : ∃ ny, w7.heap.size = ny := ⟨_, rfl⟩
          rw [hny] at h8
          rw [hny]
          have H8 : Hid (Sp.Sep w (w7.alloc (.cells #[.int .u64 b.l, .int .u32 b.e, .int .i64 b.k, .int .u64 b.v, .int .u64 b.d, .string (cut80 b.i), .string (cut80 b.a)] 44)) [XI g x, locI [(nb, 44, rcA (cutR r))], locI [(ny, 44, rcA (cutR b))]]) := Lib.hid h8
          clear h8 y0 y1 y2 y3 y4 y5 y6 HC hny
          generalize w7.alloc (.cells #[.int .u64 b.l, .int .u32 b.e, .int .i64 b.k, .int .u64 b.v, .int .u64 b.d, .string (cut80 b.i), .string (cut80 b.a)] 44) = w8 at *
          have z2 : w8.cell? ⟨ny, 2, none⟩ = some (.int .i64 b.k) := (loc_blk H8.out (k := 2) rfl).cell 2
          have z5 : w8.cell? ⟨ny, 5, none⟩ = some (.string (cut80 b.i)) := (loc_blk H8.out (k := 2) rfl).cell 5
          have r5 : w8.cell? ⟨nb, 5, none⟩ = some (.string (cut80 r.i)) := (loc_blk H8.out (k := 1) rfl).cell 5
          have H9 : Hid (Sp.Sep w w8 [XI g x, locI [(nb, 44, rcA (cutR r))]]) := Lib.hid (loc_drop (items := [XI g x, locI [(nb, 44, rcA (cutR r))]]) H8.out)
          have HROK := Lib.hid (HF.out b (List.mem_of_getElem? HBK.out))
          have hval : w8.cell? ⟨ny, 3, none⟩ = some (.int .u64 b.v) := (loc_blk H8.out (k := 2) rfl).cell 3
          obtain ⟨bl, be, bk, bv, bd, bi, ba⟩ := b
          simp only at z2 z5 hval
          by_cases hcond : isL (⟨bl, be, bk, bv, bd, bi, ba⟩ : Rec) = true ∧ (cutR (⟨bl, be, bk, bv, bd, bi, ba⟩ : Rec)).key = key
          · have hse : ((cut80 bi).toList == (cut80 r.i).toList) = true := by
              have h1 : (cut80 bi).toList = key := hcond.2
              have h2 : (cut80 r.i).toList = key := HKEY.out
              rw [h1, h2]; simp
            have hor : bk = 1 ∨ bk = 2 := by have := hcond.1; simpa [isL] using this
            have HM1 : Hid (manyN L key (k + 1) = manyN L key k + 1) := Lib.hid (by rw [manyN, HBK.out]; simp only; rw [if_pos hcond])
            cases hbs : bestN L key k with
            | none =>
              have HB1 : Hid (bestN L key (k + 1) = some k) := Lib.hid (by rw [bestN, HBK.out]; simp only; rw [if_pos hcond, hbs])
              clear hcond hbs
              have hbz : bz (none : Option Nat) = -1 := rfl
              rw [hbz]
              rcases hor with rfl | rfl
              all_goals (
                go_upto_region 15 with fail
                have I : Below w8.heap.size w8 { w8 with drawn := w8.drawn + 1 } := (Below.refl _ _).drew
                have hne : Nonempty (In (fun X => Below w8.heap.size w8 X)) := ⟨⟨_, I⟩⟩
                refine region_class (fun X => Below w8.heap.size w8 X) (by kernel_rfl) (by kernel_rfl) I ?_
                repeat (go_big_quiet_step (fail))
                refine wpQuiet_nil ?_
                rintro _ ⟨jj, rfl⟩
                have H10 := Lib.hid (H9.out.later jj.h)
                clear I hne z2 z5 r5 hval
                generalize jj.W = X at *
                clear jj
                go_wp2_with fail
                go_roundg (m - (k + 1))
                case measure => have := HGK2.out; omega
                case rel => exact ⟨k + 1, by omega, by have := HGK2.out; omega, by rw [HB1.out]; rfl, by rw [HM1.out]; rfl, by go_num, H10⟩)
            | some j =>
              obtain ⟨hjk, d, hd, _⟩ := best_lt L key k j hbs
              have HB1 : Hid (bestN L key (k + 1) = if d.v ≤ bv then some k else some j) := Lib.hid (by rw [bestN, HBK.out]; simp only; rw [if_pos hcond, hbs]; simp only; rw [hd])
              have hbz : bz (some j) = (j : Int) := rfl
              have hj0 : ¬ ((j : Int) < 0) := by omega
              have hjn : (j : Int) < (n : Int) := by have := HM.out; omega
              have hdk := HF.out d (List.mem_of_getElem? hd)
              have hcell : ∀ jj : In (fun X => Below w8.heap.size w8 X), RC jj.W g2 (o + j * 7) d := fun jj => by
                obtain ⟨g4, o4, e4, hc4⟩ := (HR.out.later (H8.out.below.trans (jj.h.mono H8.out.below.size))).rc (by have := HM.out; omega)
                injection e4 with e4
                injection e4 with e41 e42 _
                subst e41
                subst e42
                exact hc4 j d hd
              rw [hbz]
              have HDK := Lib.hid hdk
              have f3 : ∀ jj : In (fun X => Below w8.heap.size w8 X), jj.W.cell? ⟨ny, 3, none⟩ = some (.int .u64 bv) := fun jj => (jj.h.cell (World.block_lt_of_cell? _ _ hval)).trans hval
              have c0 : ∀ jj : In (fun X => Below w8.heap.size w8 X), jj.W.cell? ⟨g2, o + j * 7, none⟩ = some (.int .u64 d.l) := fun jj => (hcell jj).c0
              have c1 : ∀ jj : In (fun X => Below w8.heap.size w8 X), jj.W.cell? ⟨g2, o + j * 7 + 1, none⟩ = some (.int .u32 d.e) := fun jj => (hcell jj).c1
              have c2 : ∀ jj : In (fun X => Below w8.heap.size w8 X), jj.W.cell? ⟨g2, o + j * 7 + 2, none⟩ = some (.int .i64 d.k) := fun jj => (hcell jj).c2
              have c3 : ∀ jj : In (fun X => Below w8.heap.size w8 X), jj.W.cell? ⟨g2, o + j * 7 + 3, none⟩ = some (.int .u64 d.v) := fun jj => (hcell jj).c3
              have c4 : ∀ jj : In (fun X => Below w8.heap.size w8 X), jj.W.cell? ⟨g2, o + j * 7 + 4, none⟩ = some (.int .u64 d.d) := fun jj => (hcell jj).c4
              have c5 : ∀ jj : In (fun X => Below w8.heap.size w8 X), jj.W.cell? ⟨g2, o + j * 7 + 5, none⟩ = some (.string d.i) := fun jj => (hcell jj).c5
              have c6 : ∀ jj : In (fun X => Below w8.heap.size w8 X), jj.W.cell? ⟨g2, o + j * 7 + 6, none⟩ = some (.string d.a) := fun jj => (hcell jj).c6
              have hfd : ∀ jj : In (fun X => Below w8.heap.size w8 X), (Instr.field 44 (.agg #[.int .u64 d.l, .int .u32 d.e, .int .i64 d.k, .int .u64 d.v, .int .u64 d.d, .string (cut80 d.i), .string (cut80 d.a)]) 3).run Try.prog jj.W = .ok (.int .u64 d.v) jj.W := fun jj => by kernel_rfl
              clear hcond hbs hcell hdk
              rcases hor with rfl | rfl
              all_goals (
                go_upto_region 15 with fail
                clear z2 z5 r5 hval
                have I : Below w8.heap.size w8 { w8 with drawn := w8.drawn + 1 } := (Below.refl _ _).drew
                have hne : Nonempty (In (fun X => Below w8.heap.size w8 X)) := ⟨⟨_, I⟩⟩
                refine region_class (fun X => Below w8.heap.size w8 X) (by kernel_rfl) (by kernel_rfl) I ?_
                repeat (go_big_quiet_step (first
                  | (go_at_call 15; with_reducible exact class_call _ (fun hi => (Re.lawcut_any d.l d.e d.k d.v d.d d.i d.a _ HDK.out.i HDK.out.a).mono fun _ _ ⟨he, hb⟩ => ⟨he, hi.trans (hb.mono hi.size)⟩))))
                refine wpQuiet_nil ?_
                rintro _ ⟨jj, rfl⟩
                have H10 := Lib.hid (H9.out.later jj.h)
                clear I hne f3 c0 c1 c2 c3 c4 c5 c6 hfd
                generalize jj.W = X at *
                clear jj
                by_cases hdv : d.v ≤ bv
                · rw [if_pos hdv] at HB1
                  go_wp2_with fail
                  go_roundg (m - (k + 1))
                  case measure => have := HGK2.out; omega
                  case rel => exact ⟨k + 1, by omega, by have := HGK2.out; omega, by rw [HB1.out]; rfl, by rw [HM1.out]; rfl, by go_num, H10⟩
                · rw [if_neg hdv] at HB1
                  go_wp2_with fail
                  go_roundg (m - (k + 1))
                  case measure => have := HGK2.out; omega
                  case rel => exact ⟨k + 1, by omega, by have := HGK2.out; omega, by rw [HB1.out]; rfl, by rw [HM1.out]; rfl, by go_num, H10⟩)
          · have HBN : Hid (bestN L key (k + 1) = bestN L key k ∧ manyN L key (k + 1) = manyN L key k) := Lib.hid (by
              constructor
              · rw [bestN, HBK.out]; simp only; rw [if_neg hcond]
              · rw [manyN, HBK.out]; simp only; rw [if_neg hcond])
            by_cases hk1 : bk = 1
            · subst hk1
              have hse : ((cut80 bi).toList == (cut80 r.i).toList) = false := by
                rw [Bool.eq_false_iff]
                intro h1
                exact hcond ⟨rfl, by have h2 : (cut80 bi).toList = (cut80 r.i).toList := by simpa using h1
                                     exact h2.trans HKEY.out⟩
              clear hcond
              go_wp2_with fail
              go_roundg (m - (k + 1))
              case measure => have := HGK2.out; omega
              case rel => exact ⟨k + 1, by omega, by have := HGK2.out; omega, by rw [HBN.out.1], by rw [HBN.out.2], by go_num, H9⟩
            · by_cases hk2 : bk = 2
              · subst hk2
                have hse : ((cut80 bi).toList == (cut80 r.i).toList) = false := by
                  rw [Bool.eq_false_iff]
                  intro h1
                  exact hcond ⟨rfl, by have h2 : (cut80 bi).toList = (cut80 r.i).toList := by simpa using h1
                                       exact h2.trans HKEY.out⟩
                clear hcond hk1
                go_wp2_with fail
                go_roundg (m - (k + 1))
                case measure => have := HGK2.out; omega
                case rel => exact ⟨k + 1, by omega, by have := HGK2.out; omega, by rw [HBN.out.1], by rw [HBN.out.2], by go_num, H9⟩
              · have b1 : (bk == 1) = false := by simpa using hk1
                have b2 : (bk == 2) = false := by simpa using hk2
                clear hcond
                go_wp2_with fail
                go_roundg (m - (k + 1))
                case measure => have := HGK2.out; omega
                case rel => exact ⟨k + 1, by omega, by have := HGK2.out; omega, by rw [HBN.out.1], by rw [HBN.out.2], by go_num, H9⟩
        · obtain rfl : k = m := by omega
          have hkm := HM.out
          have hsz : (cut80 r.i).size ≤ maxLen := Nat.le_trans (cut80_size r.i) (by decide)
          have hbi := best_is HF.out key k (by omega)
          rw [HX.out] at hbi
          have HBI := Lib.hid hbi
          have hfk : fndX x (cut80 r.i).toList = entN L (bestN L key k) := by rw [← hbi.1, ← HKEY.out]; rfl
          have hok : othX x (cut80 r.i).toList (-1) = manyN L key k := by rw [← hbi.2, ← HKEY.out]; rfl
          have hne0 := HP.out.ne (cut80 r.i) hsz HS2.out (k := 0) rfl HG.out
          rw [hfk] at hne0
          have r5 : wr.cell? ⟨nb, 5, none⟩ = some (.string (cut80 r.i)) := (loc_blk HS2.out (k := 1) rfl).cell 5
          have HOT : Hid (∀ w9 J, Sp.Sep w w9 (XI g x :: J) → Calls Try.prog 16 #[.pointer (some ⟨g, 0, none⟩), .string (cut80 r.i), .int .i64 (-1)] w9 fun e w' => e = .returned (.int .i64 (manyN L key k : Nat)) ∧ Below w9.heap.size w9 w') := Lib.hid (fun w9 J h9 => by
            have q := HP.out.ot (cut80 r.i) (-1) hsz (by decide) h9 (k := 0) rfl HG.out
            rw [hok] at q
            exact q)
          have hex : ¬ ((k : Int) < (n : Int)) ∨ ((k : Int) < (n : Int) ∧ ¬ ((k : Int) < 40)) := by omega
          cases hbs : bestN L key k with
          | none =>
            have hbz : bz (none : Option Nat) = -1 := rfl
            rw [hbs] at hne0
            have hne1 : Calls Try.prog 11 #[.pointer (some ⟨g, 0, none⟩), .string (cut80 r.i)] wr fun e w' => e = .returned (.tuple #[.agg #[.int .u64 0, .int .u64 0, .bool false, .int .i64 0, .int .i64 0, .int .i64 0], .bool false]) ∧ Below wr.heap.size wr w' := hne0
            have HNE := Lib.hid hne1
            rw [hbz]
            clear hkm hsz hbi hfk hok hne0 hne1 hbs
            rcases hex with hl5 | ⟨hl5, hl6⟩
            all_goals (
              go_upto_region 18 with (first
                | (go_at_call 11; refine HNE.out.mono ?_; rintro e9 w9 ⟨rfl, hb9⟩; have H9 := Lib.hid (HS2.out.later hb9); clear hb9 r5))
              have h10 := loc_alloc H9.out 34 #[.int .u64 0, .int .u64 0, .bool false, .int .i64 0, .int .i64 0, .int .i64 0]
              obtain ⟨ne, hne⟩ : ∃ ne, w9.heap.size = ne := ⟨_, rfl⟩
              rw [hne] at h10
              rw [hne]
              have H10 : Hid (Sp.Sep w (w9.alloc (.cells #[.int .u64 0, .int .u64 0, .bool false, .int .i64 0, .int .i64 0, .int .i64 0] 34)) [XI g x, locI [(nb, 44, rcA (cutR r))], locI [(ne, 34, #[.int .u64 0, .int .u64 0, .bool false, .int .i64 0, .int .i64 0, .int .i64 0])]]) := Lib.hid h10
              clear hne h10
              generalize w9.alloc (.cells #[.int .u64 0, .int .u64 0, .bool false, .int .i64 0, .int .i64 0, .int .i64 0] 34) = w10 at *
              have s5 : w10.cell? ⟨nb, 5, none⟩ = some (.string (cut80 r.i)) := (loc_blk H10.out (k := 1) rfl).cell 5
              go_upto_region 20 with (first
                | (go_at_call 16; refine (HOT.out _ _ H10.out).mono ?_; rintro e11 w11 ⟨rfl, hb11⟩; have H11 := Lib.hid (H10.out.later hb11); clear hb11 s5))
              have I : Below w11.heap.size w11 { w11 with drawn := w11.drawn + 1 } := (Below.refl _ _).drew
              have hne : Nonempty (In (fun X => Below w11.heap.size w11 X)) := ⟨⟨_, I⟩⟩
              refine region_class (fun X => Below w11.heap.size w11 X) (by kernel_rfl) (by kernel_rfl) I ?_
              repeat (go_big_quiet_step (fail))
              refine wpQuiet_nil ?_
              rintro _ ⟨jj, rfl⟩
              have H12 : Hid (Sp.Sep w jj.W [XI g x]) := Lib.hid (loc_drop (items := [XI g x]) (loc_drop (items := [XI g x, locI [(nb, 44, rcA (cutR r))]]) (H11.out.later jj.h)))
              clear I hne
              generalize jj.W = X at *
              clear jj
              go_wp2_with fail
              go_roundg (k - (q + 1))
              case measure => have := HGK.out; omega
              case rel => exact ⟨q + 1, by omega, by have := HGK.out; omega, by go_num, H12⟩)
          | some j =>
            obtain ⟨hjk, d, hd, hdl, _⟩ := best_lt L key k j hbs
            have hbz : bz (some j) = (j : Int) := rfl
            have hj0 : ((j : Int) ≥ 0) := by omega
            have hjn : (j : Int) < (n : Int) := by omega
            have hdk := HF.out d (List.mem_of_getElem? hd)
            rw [hbs] at hne0
            have hen : entN L (some j) = some (entOf (cutR d) ((j : Int) / 4) ((j : Int) % 4)) := by
              unfold entN
              rw [Option.bind_some, hd]
              rfl
            rw [hen] at hne0
            obtain ⟨zd, hzd⟩ : ∃ zd, (entOf (cutR d) ((j : Int) / 4) ((j : Int) % 4)).z = zd := ⟨_, rfl⟩
            obtain ⟨B, hB⟩ : ∃ B, decide (d.k = 1) = B := ⟨_, rfl⟩
            have hB2 : (d.k == 1) = B := hB
            have hne1 : Calls Try.prog 11 #[.pointer (some ⟨g, 0, none⟩), .string (cut80 r.i)] wr fun e w' => e = .returned (.tuple #[.agg #[.int .u64 d.v, .int .u64 d.d, .bool B, .int .i64 zd, .int .i64 ((j : Int) / 4), .int .i64 ((j : Int) % 4)], .bool true]) ∧ Below wr.heap.size wr w' := by rw [← hzd, ← hB]; exact hne0
            have HNE := Lib.hid hne1
            have HDK := Lib.hid hdk
            have HD := Lib.hid hd
            rw [hbz]
            have v0 : IntKind.i64.wrap (j : Int) = (j : Int) := IntWalk.i64_in _ (by omega)
            have v1 : (j : Int).tdiv 4 = (j : Int) / 4 := Int.tdiv_eq_ediv_of_nonneg (by omega)
            have v2 : (j : Int).tmod 4 = (j : Int) % 4 := Int.tmod_eq_emod_of_nonneg (by omega)
            have v3 : IntKind.i64.wrap ((j : Int) / 4) = (j : Int) / 4 := IntWalk.i64_in _ (by omega)
            have v4 : IntKind.i64.wrap ((j : Int) % 4) = (j : Int) % 4 := IntWalk.i64_in _ (by omega)
            clear hkm hsz hbi hfk hok hne0 hne1 hbs hen hzd hdk hd hB hdl
            rcases hex with hl5 | ⟨hl5, hl6⟩
            all_goals (
              go_upto_region 18 with (first
                | (go_at_call 11; refine HNE.out.mono ?_; rintro e9 w9 ⟨rfl, hb9⟩; have H9 := Lib.hid (HS2.out.later hb9); clear hb9 r5))
              have h10 := loc_alloc H9.out 34 #[.int .u64 d.v, .int .u64 d.d, .bool B, .int .i64 zd, .int .i64 ((j : Int) / 4), .int .i64 ((j : Int) % 4)]
              obtain ⟨ne, hne⟩ : ∃ ne, w9.heap.size = ne := ⟨_, rfl⟩
              rw [hne] at h10
              rw [hne]
              have H10 : Hid (Sp.Sep w (w9.alloc (.cells #[.int .u64 d.v, .int .u64 d.d, .bool B, .int .i64 zd, .int .i64 ((j : Int) / 4), .int .i64 ((j : Int) % 4)] 34)) [XI g x, locI [(nb, 44, rcA (cutR r))], locI [(ne, 34, #[.int .u64 d.v, .int .u64 d.d, .bool B, .int .i64 zd, .int .i64 ((j : Int) / 4), .int .i64 ((j : Int) % 4)])]]) := Lib.hid h10
              clear hne h10
              generalize w9.alloc (.cells #[.int .u64 d.v, .int .u64 d.d, .bool B, .int .i64 zd, .int .i64 ((j : Int) / 4), .int .i64 ((j : Int) % 4)] 34) = w10 at *
              have s5 : w10.cell? ⟨nb, 5, none⟩ = some (.string (cut80 r.i)) := (loc_blk H10.out (k := 1) rfl).cell 5
              go_upto_region 20 with (first
                | (go_at_call 16; refine (HOT.out _ _ H10.out).mono ?_; rintro e11 w11 ⟨rfl, hb11⟩; have H11 := Lib.hid (H10.out.later hb11); clear hb11 s5))
              have f0 : ∀ jj : In (fun X => Below w11.heap.size w11 X), Sp.Blk jj.W ne 34 #[.int .u64 d.v, .int .u64 d.d, .bool B, .int .i64 zd, .int .i64 ((j : Int) / 4), .int .i64 ((j : Int) % 4)] := fun jj => loc_blk (H11.out.later jj.h) (k := 2) rfl
              have e0 : ∀ jj : In (fun X => Below w11.heap.size w11 X), jj.W.cell? ⟨ne, 0, none⟩ = some (.int .u64 d.v) := fun jj => (f0 jj).cell 0
              have e2 : ∀ jj : In (fun X => Below w11.heap.size w11 X), jj.W.cell? ⟨ne, 2, none⟩ = some (.bool B) := fun jj => (f0 jj).cell 2
              have e4 : ∀ jj : In (fun X => Below w11.heap.size w11 X), jj.W.cell? ⟨ne, 4, none⟩ = some (.int .i64 ((j : Int) / 4)) := fun jj => (f0 jj).cell 4
              have e5 : ∀ jj : In (fun X => Below w11.heap.size w11 X), jj.W.cell? ⟨ne, 5, none⟩ = some (.int .i64 ((j : Int) % 4)) := fun jj => (f0 jj).cell 5
              have hcell : ∀ jj : In (fun X => Below w11.heap.size w11 X), RC jj.W g2 (o + j * 7) d := fun jj => by
                obtain ⟨g4, o4, q4, hc4⟩ := (HR.out.later (H11.out.below.trans (jj.h.mono H11.out.below.size))).rc (by omega)
                injection q4 with q4
                injection q4 with q41 q42 _
                subst q41
                subst q42
                exact hc4 j d HD.out
              have c0 : ∀ jj : In (fun X => Below w11.heap.size w11 X), jj.W.cell? ⟨g2, o + j * 7, none⟩ = some (.int .u64 d.l) := fun jj => (hcell jj).c0
              have c1 : ∀ jj : In (fun X => Below w11.heap.size w11 X), jj.W.cell? ⟨g2, o + j * 7 + 1, none⟩ = some (.int .u32 d.e) := fun jj => (hcell jj).c1
              have c2 : ∀ jj : In (fun X => Below w11.heap.size w11 X), jj.W.cell? ⟨g2, o + j * 7 + 2, none⟩ = some (.int .i64 d.k) := fun jj => (hcell jj).c2
              have c3 : ∀ jj : In (fun X => Below w11.heap.size w11 X), jj.W.cell? ⟨g2, o + j * 7 + 3, none⟩ = some (.int .u64 d.v) := fun jj => (hcell jj).c3
              have c4 : ∀ jj : In (fun X => Below w11.heap.size w11 X), jj.W.cell? ⟨g2, o + j * 7 + 4, none⟩ = some (.int .u64 d.d) := fun jj => (hcell jj).c4
              have c5 : ∀ jj : In (fun X => Below w11.heap.size w11 X), jj.W.cell? ⟨g2, o + j * 7 + 5, none⟩ = some (.string d.i) := fun jj => (hcell jj).c5
              have c6 : ∀ jj : In (fun X => Below w11.heap.size w11 X), jj.W.cell? ⟨g2, o + j * 7 + 6, none⟩ = some (.string d.a) := fun jj => (hcell jj).c6
              have hfd : ∀ jj : In (fun X => Below w11.heap.size w11 X), (Instr.field 44 (.agg #[.int .u64 d.l, .int .u32 d.e, .int .i64 d.k, .int .u64 d.v, .int .u64 d.d, .string (cut80 d.i), .string (cut80 d.a)]) 3).run Try.prog jj.W = .ok (.int .u64 d.v) jj.W := fun jj => by kernel_rfl
              clear f0 hcell
              have I : Below w11.heap.size w11 { w11 with drawn := w11.drawn + 1 } := (Below.refl _ _).drew
              have hne : Nonempty (In (fun X => Below w11.heap.size w11 X)) := ⟨⟨_, I⟩⟩
              refine region_class (fun X => Below w11.heap.size w11 X) (by kernel_rfl) (by kernel_rfl) I ?_
              repeat (go_big_quiet_step (first
                | (go_at_call 15; with_reducible exact class_call _ (fun hi => (Re.lawcut_any d.l d.e d.k d.v d.d d.i d.a _ HDK.out.i HDK.out.a).mono fun _ _ ⟨he, hb⟩ => ⟨he, hi.trans (hb.mono hi.size)⟩))))
              refine wpQuiet_nil ?_
              rintro _ ⟨jj, rfl⟩
              have H12 : Hid (Sp.Sep w jj.W [XI g x]) := Lib.hid (loc_drop (items := [XI g x]) (loc_drop (items := [XI g x, locI [(nb, 44, rcA (cutR r))]]) (H11.out.later jj.h)))
              clear I hne e0 e2 e4 e5 c0 c1 c2 c3 c4 c5 c6 hfd
              generalize jj.W = X at *
              clear jj
              go_wp2_with fail
              go_roundg (k - (q + 1))
              case measure => have := HGK.out; omega
              case rel => exact ⟨q + 1, by omega, by have := HGK.out; omega, by go_num, H12⟩)
    · obtain rfl : q = m := by omega
      have hqm := HM.out
      have HFX := Lib.hid (fun w9 => fixed_any HP.out w9)
      have hex : ¬ ((q : Int) < (n : Int)) ∨ ((q : Int) < (n : Int) ∧ ¬ ((q : Int) < 40)) := by omega
      clear hqm
      rcases hex with hl5 | ⟨hl5, hl6⟩
      all_goals (
        go_wp2_with (first
          | (go_at_call 14; refine (HFX.out _).mono ?_; rintro e9 w9 ⟨rfl, hb9⟩; have HB9 := Lib.hid (HS.out.below.trans (hb9.mono HS.out.below.size)); clear hb9))
        go_ret
        exact ⟨rfl, HB9.out⟩)

set_option maxRecDepth 100000 in
theorem lifted {XI : Nat → Idx → Sp.Item} (P : Prg XI) (os : Os) (started : os.Started) (H : Type) (enc : TypeId × Value → H) :
    ReturnsInHanded {} Try.checked os 4 .any (Rows.indexNewestSpec.pre6 enc Try.prog Try.f4 Rows.indexNewestRow.domain false) (Rows.indexNewestSpec.post enc Try.prog Try.f4 false true false false) := by
  refine returnsInHanded_of_change (C := Try.checked) own started (by kernel_rfl) Try.func4
    (ChangeSpec.witness6 (enc := enc) (C := Try.checked) false ⟨#[], #[.slice none 0 0], []⟩ 8 (by kernel_rfl) (by kernel_rfl) (by kernel_rfl) (by kernel_rfl)) ?_
  intro W base args ds gs before hval0 hW hcnd _
  have hval : ∀ (j : Nat) t v, Try.f4.params[j]? = some t → args[j]? = some v → Value.okWide Try.prog W .any base t v := hval0
  have hW' := hW
  obtain ⟨p, q, hA0, hV, rfl, hfz, hnd⟩ := hW
  have hA : DataW.TrodAll enc Try.prog W 0 (fun _ => true) true Try.f4.params.toList args.toList ds p := hA0
  rw [Try.params4] at hA hval
  obtain ⟨v0, vs0, d0, ds0, p0, q0, hargs, rfl, rfl, h0, r0⟩ := trodAll_cons hA
  obtain ⟨rfl, rfl, rfl⟩ := trodAll_nil r0
  obtain rfl : args = #[v0] := by cases args; simp_all
  obtain ⟨rfl, rfl⟩ := trodVars_none hV
  obtain ⟨A0, n0, c0, L0, rfl, hn0, hL0, hf0⟩ := Re.open_recs (hval 0 22 v0 rfl rfl) h0
  clear hA0 hval0
  try simp only [List.append_nil] at hW'
  try simp only [List.nil_append] at hW'
  have hlt := fun x hx => hW'.lt x hx
  refine (walk P A0 n0 c0 L0 W hL0 hn0 hf0).mono fun e W' ⟨he, hg⟩ => ?_
  subst he
  refine ⟨_, rfl, post_mem hW' (fun _ _ _ => (trodAll_cons_mk (shut_bool Try.underlying4 _) trodAll_mk0)) (fun sp hsp => ?_) (fun _ => rfl) hg (ok_one (by kernel_rfl) rfl (okWide_bool_mk Try.underlying4 _))⟩
  have hall := (trodAll_cons_mk (arg_same (sp := sp) laid (by kernel_rfl) (of_decide_eq_true (by kernel_rfl)) h0 hg (by intro x hx; simp_all) hlt hsp) trodAll_mk0)
  try simp only [List.append_nil] at hall
  try simp only [List.nil_append] at hall
  exact hall

theorem over {XI : Nat → Idx → Sp.Item} (P : Prg XI) : Rows.indexNewestRow.holds Try.pinned (OpenSpec.ofChange Rows.indexNewestSpec) :=
  OpenClaim.holds_of_wide 4 Try.f4 rfl rfl rfl rfl rfl rfl rfl ⟨rfl, rfl, rfl, rfl, rfl⟩ rfl rfl rfl rfl rfl (by kernel_rfl) Try.func4 (by kernel_rfl)
    (of_decide_eq_true (by kernel_rfl)) (by unfold Func.isWrapper; first | (rw [if_pos (by decide +kernel)]; kernel_rfl) | (rw [if_neg (by decide +kernel)]; exact ⟨rfl, rfl⟩))
    (fun os started H enc _ => lifted P os started H enc)

end Go.Proofs.Ytjdkgkllgapgjaa.indexNewest
