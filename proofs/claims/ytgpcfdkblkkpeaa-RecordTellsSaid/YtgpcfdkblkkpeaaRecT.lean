/- record.Next told in one: for every text, place and epoch what it returns, and when it says yes. -/
import Derived.Test.YtgpcfdkblkkpeaaRecS
namespace Go.Proofs.Ytgpcfdkblkkpeaa
open Go.RowKit Go.Lib Wd Cr Ck
set_option linter.unusedVariables false

/-- What record.Next returns: a record's value, and whether it is one. -/
structure NextIs (M : ByteArray) (x y : Int) (o : Bool) (l e k v d : Int) (i a : ByteArray) : Prop where
  call : ∀ w, Calls Try.prog 15 #[.string M, .int .u64 x, .int .u32 y] w fun e' w' => e' = .returned (.tuple #[.agg #[.int .u64 l, .int .u32 e, .int .i64 k, .int .u64 v, .int .u64 d, .string i, .string a], .bool o]) ∧ Below w.heap.size w w'
  iff : o = true ↔ isSec M.data.toList = true ∧ (cutR M.data.toList).l = x ∧ (cutR M.data.toList).e = y
  is : o = true → cutR M.data.toList = ⟨l, e, k, v, d, i.data.toList, a.data.toList⟩

theorem next_some (M : ByteArray) (x y : Int) (hM : M.size ≤ 140737488355328) : ∃ (o : Bool) (l e k v d : Int) (i a : ByteArray), NextIs M x y o l e k v d i a := by
  cases hs : isSec M.data.toList
  · exact ⟨false, 0, 0, 0, 0, 0, ⟨#[]⟩, ⟨#[]⟩, fun w => next_none M x y w hM hs, by rw [hs]; simp, by intro h; cases h⟩
  · obtain ⟨l, e, k, v, d, i, a, hR⟩ : ∃ l e k v d, ∃ i a : ByteArray, cutR M.data.toList = ⟨l, e, k, v, d, i.data.toList, a.data.toList⟩ := ⟨_, _, _, _, _, ⟨(cutR M.data.toList).i.toArray⟩, ⟨(cutR M.data.toList).a.toArray⟩, rfl⟩
    by_cases hq : l = x ∧ e = y
    · obtain ⟨rfl, rfl⟩ := hq
      exact ⟨true, l, e, k, v, d, i, a, fun w => next_yes M l e k v d i a w hM hR hs, by rw [hs, hR]; simp, fun _ => hR⟩
    · refine ⟨false, 0, 0, 0, 0, 0, ⟨#[]⟩, ⟨#[]⟩, fun w => next_not M l e k v d i a x y w hM hR hs hq, ?_, by intro h; cases h⟩
      rw [hR]
      simp only
      constructor
      · intro h; cases h
      · intro h; exact absurd h.2 hq

theorem mix_len (S T : ByteArray) (k : Nat) (hk : k ≤ 128) (hS : S.size = 128) (hT : T.size = 128) : (S.extract 0 k).size = k ∧ (T.extract k 128).size = 128 - k := by
  constructor
  · rw [ByteArray.size_extract]; omega
  · rw [ByteArray.size_extract]; omega
theorem mix_list (S T : ByteArray) (k : Nat) (hT : T.size = 128) : (S.extract 0 k ++ T.extract k 128).data.toList = S.data.toList.take k ++ T.data.toList.drop k := by
  rw [ByteArray.data_append, Array.toList_append, ext_take, ext_drop _ _ _ (by omega)]

theorem stamp_ne {r : Rec} (hf : Fits r) (h : okR r = true) : List.replicate 12 (0 : UInt8) ≠ stampL r := by
  intro hq
  have h0 := okR_l h
  have l0 := hf.l0
  have l1 := hf.l1
  have := congrArg (fun l => leN (l.take 8)) hq
  simp only [stampL] at this
  have e1 : (putL r.l.toNat 8).take 8 = putL r.l.toNat 8 := List.take_of_length_le (by rw [putL_length]; omega)
  rw [List.take_append_of_le_length (by rw [putL_length]; omega), e1, leN_putL, List.take_replicate, leN_zeros] at this
  omega

end Go.Proofs.Ytgpcfdkblkkpeaa
