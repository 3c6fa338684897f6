/- WireBack: what was put is read as it was. -/
import Derived.Test.YtlnpolepgdoloaaLaws
import Derived.Deep.RegionHeld3
namespace Go.Proofs.Ytlnpolepgdoloaa
open Go.RowKit
set_option linter.unusedVariables false

theorem stepF_be (k m : Nat) (al : Int → Int) (rest : List UInt8) (hm : m < 256 ^ k) (ha : al m = 0) : stepF k al (be k m ++ rest) 0 = (m, rest, 0) := by
  have hl := be_length k m
  have ht : (be k m ++ rest).take k = be k m := by rw [List.take_append_of_le_length (by omega), List.take_of_length_le (by omega)]
  have hd : (be k m ++ rest).drop k = rest := by rw [List.drop_append_of_le_length (by omega), List.drop_of_length_le (by omega), List.nil_append]
  unfold stepF
  rw [if_neg (by simp), if_neg (by rw [List.length_append]; omega), ht, hd, wordN_be k m hm, ha, if_neg (by simp)]

theorem alInt_le (m : Nat) (h : m < 18446744073709551616) : alInt m = 0 := by unfold alInt ceilE; rw [if_neg (by omega)]
theorem w64_lt (n : Int) : w64 n < 18446744073709551616 := by have := u64_0 n; have := u64_1 n; unfold w64; omega
theorem wrap_w64 (n : Int) (h0 : -9223372036854775808 ≤ n) (h1 : n ≤ 9223372036854775807) : wrap64 ((w64 n : Nat) : Int) = n := by
  have h2 : ((w64 n : Nat) : Int) = n % 18446744073709551616 := by
    have := u64_0 n
    unfold w64
    rw [IntKind.wrap_u64] at this ⊢
    omega
  rw [h2]
  unfold wrap64
  omega
theorem numW_lt (x : Nat) (h : x < 18446744073709551616) : numW x < 18446744073709551616 := by unfold numW; split <;> omega
theorem numW_numW (x : Nat) : numW (numW x) = numW x := by
  by_cases h : nanB x = true
  · have e : numW x = 9221120237041090561 := by unfold numW; rw [if_pos h]
    rw [e]
    unfold numW
    split <;> rfl
  · have e : numW x = x := by unfold numW; rw [if_neg h]
    rw [e, e]
theorem alNum_num (x : Nat) : alNum (numW x) = 0 := by
  unfold alNum floatE
  rw [Int.toNat_natCast]
  by_cases h : nanB x = true
  · have e : numW x = 9221120237041090561 := by unfold numW; rw [if_pos h]
    rw [e, if_neg (by rintro ⟨h1, -⟩; exact h1 rfl)]
  · have e : numW x = x := by unfold numW; rw [if_neg h]
    rw [e, if_neg (by rintro ⟨-, h1⟩; exact h h1)]

theorem step_int (n : Int) (rest : List UInt8) : stepF 8 alInt (be 8 (w64 n) ++ rest) 0 = (w64 n, rest, 0) := stepF_be 8 _ _ _ (w64_lt n) (alInt_le _ (w64_lt n))
theorem step_bool (b : Bool) (rest : List UInt8) : stepF 1 alBool (be 1 b.toNat ++ rest) 0 = (b.toNat, rest, 0) := by
  cases b <;> exact stepF_be 1 _ _ _ (by decide) (by decide)
theorem step_count (n : Int) (rest : List UInt8) : stepF 4 (alCount 1099511627776) (be 4 (capC n).toNat ++ rest) 0 = ((capC n).toNat, rest, 0) := by
  have h0 : 0 ≤ capC n := by unfold capC; omega
  have h1 : capC n ≤ 4294967295 := by unfold capC; omega
  exact stepF_be 4 _ _ _ (by omega) (by unfold alCount ceilE; rw [if_neg (by omega)])
theorem step_num (x : Nat) (h : x < 18446744073709551616) (rest : List UInt8) : stepF 8 alNum (be 8 (numW x) ++ rest) 0 = (numW x, rest, 0) :=
  stepF_be 8 _ _ _ (by have := numW_lt x h; omega) (alNum_num x)
theorem bytes_bytes (l rest : List UInt8) (hl : l.length ≤ 1000000) : bytesF 1099511627776 (be 4 l.length ++ l ++ rest) 0 = (l, rest, 0) := by
  have hs : stepF 4 (alBytes 1099511627776 (be 4 l.length ++ l ++ rest)) (be 4 l.length ++ l ++ rest) 0 = (l.length, l ++ rest, 0) := by
    rw [List.append_assoc]
    refine stepF_be 4 _ _ _ (by omega) ?_
    have hc : ceilE (max 1099511627776 0) 11 (l.length : Int) = 0 := by unfold ceilE; rw [if_neg (by omega)]
    unfold alBytes roomE
    simp only [List.length_append, be_length]
    rw [hc, if_pos rfl, if_neg (by omega)]
  unfold bytesF
  rw [hs]
  by_cases h0 : l.length = 0
  · have : l = [] := List.eq_nil_of_length_eq_zero h0
    subst this
    rfl
  · rw [if_neg h0]
    simp

theorem RdR.drew {w : World} {g : Nat} {rest : List UInt8} {err : Int} (h : RdR w g rest err) : RdR w.drew g rest err := h

/-- a reader's block, and a cell of another one -/
theorem bk_keep {w W W' : World} {g b j : Nat} {y : Value} (ho : Only g W W') (hg : w.heap.size ≤ g) (hne : b ≠ g) (h : Below w.heap.size w W ∧ W.cell? ⟨b, j, none⟩ = some y) : Below w.heap.size w W' ∧ W'.cell? ⟨b, j, none⟩ = some y :=
  ⟨h.1.trans (ho.to_below h.1.size hg), ho.cell h.2 (by intro e; injection e with e; exact hne e)⟩

theorem encs_drop (its : List Itm) (k : Nat) (h : k < its.length) : encs (its.drop k) = enc its[k] ++ encs (its.drop (k + 1)) := by
  unfold encs
  rw [List.drop_eq_getElem_cons h, List.flatMap_cons]

end Go.Proofs.Ytlnpolepgdoloaa
