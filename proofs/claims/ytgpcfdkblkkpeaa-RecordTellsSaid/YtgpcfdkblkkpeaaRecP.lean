/- A record in memory that is written anew: what lies there, and elsewhere, behind that. -/
import Derived.Test.YtgpcfdkblkkpeaaRecX
namespace Go.Proofs.Ytgpcfdkblkkpeaa
open Go.RowKit Go.Lib Wd Cr Ck
set_option linter.unusedVariables false

/-- A record lies at block B, and may be written. -/
structure FR (W : World) (B : Nat) (l e k v d : Int) (i a : ByteArray) : Prop where
  L : LiesR W B l e k v d i a
  F : ∀ j, j < 7 → W.frozen? ⟨B, j, none⟩ = false
theorem FR.later {W w : World} {B : Nat} {l e k v d : Int} {i a : ByteArray} (h : FR W B l e k v d i a) (hb : Below W.heap.size W w) : FR w B l e k v d i a :=
  ⟨h.L.later hb, fun j hj => ((bcell hb).2 _ _ h.L.lt).trans (h.F j hj)⟩
theorem layF (l e k v d : Int) (i a : ByteArray) (t : TypeId) (w : World) : FR (w.alloc (.cells #[.int .u64 l, .int .u32 e, .int .i64 k, .int .u64 v, .int .u64 d, .string i, .string a] t)) w.heap.size l e k v d i a :=
  ⟨layR l e k v d i a t w, fun j hj => by simp [go_sem]⟩
theorem frz7 {W : World} {B : Nat} (l e k v d : Int) (i a : ByteArray) {j : Nat} {b : Nat} : ((((((((W.setCell ⟨B, 0, none⟩ (.int .u64 l)).setCell ⟨B, 1, none⟩ (.int .u32 e)).setCell ⟨B, 2, none⟩ (.int .i64 k)).setCell ⟨B, 3, none⟩ (.int .u64 v)).setCell ⟨B, 4, none⟩ (.int .u64 d)).setCell ⟨B, 5, none⟩ (.string i)).setCell ⟨B, 6, none⟩ (.string a))).frozen? ⟨b, j, none⟩ = W.frozen? ⟨b, j, none⟩ := by
  simp only [World.frozen?_setCell]
theorem size7 {W : World} {B : Nat} (l e k v d : Int) (i a : ByteArray) : ((((((((W.setCell ⟨B, 0, none⟩ (.int .u64 l)).setCell ⟨B, 1, none⟩ (.int .u32 e)).setCell ⟨B, 2, none⟩ (.int .i64 k)).setCell ⟨B, 3, none⟩ (.int .u64 v)).setCell ⟨B, 4, none⟩ (.int .u64 d)).setCell ⟨B, 5, none⟩ (.string i)).setCell ⟨B, 6, none⟩ (.string a))).heap.size = W.heap.size := by simp only [size_setCell]
theorem FR.put {W : World} {B : Nat} {l e k v d l' e' k' v' d' : Int} {i a i' a' : ByteArray} (h : FR W B l' e' k' v' d' i' a') : FR ((((((((W.setCell ⟨B, 0, none⟩ (.int .u64 l)).setCell ⟨B, 1, none⟩ (.int .u32 e)).setCell ⟨B, 2, none⟩ (.int .i64 k)).setCell ⟨B, 3, none⟩ (.int .u64 v)).setCell ⟨B, 4, none⟩ (.int .u64 d)).setCell ⟨B, 5, none⟩ (.string i)).setCell ⟨B, 6, none⟩ (.string a))) B l e k v d i a :=
  ⟨put7 l e k v d i a (there_of h.L h.F) h.L.lt, fun j hj => by rw [frz7]; exact h.F j hj⟩
theorem FR.away {W : World} {B b : Nat} {l e k v d l' e' k' v' d' : Int} {i a i' a' : ByteArray} (h : FR W b l' e' k' v' d' i' a') (hb : B ≠ b) : FR ((((((((W.setCell ⟨B, 0, none⟩ (.int .u64 l)).setCell ⟨B, 1, none⟩ (.int .u32 e)).setCell ⟨B, 2, none⟩ (.int .i64 k)).setCell ⟨B, 3, none⟩ (.int .u64 v)).setCell ⟨B, 4, none⟩ (.int .u64 d)).setCell ⟨B, 5, none⟩ (.string i)).setCell ⟨B, 6, none⟩ (.string a))) b l' e' k' v' d' i' a' :=
  ⟨liesR_set (liesR_set (liesR_set (liesR_set (liesR_set (liesR_set (liesR_set h.L _ _ _ hb) _ _ _ hb) _ _ _ hb) _ _ _ hb) _ _ _ hb) _ _ _ hb) _ _ _ hb, fun j hj => by rw [frz7]; exact h.F j hj⟩

theorem okA {l e k v d : Int} {i a : ByteArray} (hl : 0 ≤ l ∧ l < 18446744073709551616) (he : 0 ≤ e ∧ e < 4294967296) (hv : 0 ≤ v ∧ v < 18446744073709551616) (hd : 0 ≤ d ∧ d < 18446744073709551616) : Fits ⟨l, e, k, v, d, i.data.toList, a.data.toList⟩ :=
  ⟨hl.1, hl.2, he.1, he.2, hv.1, hv.2, hd.1, hd.2⟩
theorem cut80_le (s : ByteArray) : (cut80 s).size ≤ maxLen := by have := cut80_size s; unfold maxLen; omega

end Go.Proofs.Ytgpcfdkblkkpeaa
