/- Layer 2: what was made of parts is told as these, and made again. -/
import Derived.Test.YteancgimgffkpaaTOpen3
namespace Go.Proofs.Yteancgimgffkpaa
open Go.RowKit
set_option linter.unusedVariables false

theorem word_acc (l : List UInt8) : ∀ a : Nat, l.foldl (fun a b => a * 256 + b.toNat) a = a * 256 ^ l.length + wordN l := by
  induction l with
  | nil => intro a; simp [wordN]
  | cons b l ih =>
    intro a
    have h0 : wordN (b :: l) = l.foldl (fun a b => a * 256 + b.toNat) b.toNat := by simp [wordN]
    rw [List.foldl_cons, ih, h0, ih, List.length_cons, Nat.pow_succ, Nat.add_mul, Nat.mul_assoc, Nat.mul_comm 256, Nat.add_assoc]
theorem wordN_cons (b : UInt8) (l : List UInt8) : wordN (b :: l) = b.toNat * 256 ^ l.length + wordN l := by
  have h0 : wordN (b :: l) = l.foldl (fun a b => a * 256 + b.toNat) b.toNat := by simp [wordN]
  rw [h0, word_acc]

theorem be_add (k : Nat) : ∀ c m : Nat, be k (c * 256 ^ k + m) = be k m := by
  induction k with
  | zero => intro c m; rfl
  | succ k ih =>
    intro c m
    have e : c * 256 ^ (k + 1) = c * 256 * 256 ^ k := by rw [Nat.pow_succ, Nat.mul_comm (256 ^ k) 256, Nat.mul_assoc]
    have hp : 0 < 256 ^ k := Nat.pow_pos (by omega)
    rw [be, be, e, ih]
    have hd : (c * 256 * 256 ^ k + m) / 256 ^ k = c * 256 + m / 256 ^ k := by
      rw [Nat.add_comm, Nat.add_mul_div_right _ _ hp, Nat.add_comm]
    rw [hd]
    congr 1
    apply UInt8.toNat_inj.1
    rw [UInt8.toNat_ofNat', UInt8.toNat_ofNat']
    omega
theorem be_wordN (l : List UInt8) : be l.length (wordN l) = l := by
  induction l with
  | nil => rfl
  | cons b l ih =>
    have hp : 0 < 256 ^ l.length := Nat.pow_pos (by omega)
    have hlt := wordN_lt l
    rw [List.length_cons, be, wordN_cons, be_add, ih]
    have hd : (b.toNat * 256 ^ l.length + wordN l) / 256 ^ l.length = b.toNat := by
      rw [Nat.add_comm, Nat.add_mul_div_right _ _ hp, Nat.div_eq_of_lt hlt, Nat.zero_add]
    rw [hd]
    congr 1
    apply UInt8.toNat_inj.1
    rw [UInt8.toNat_ofNat']
    have := b.toNat_lt
    omega
theorem be_take4 (r : List UInt8) (h : 4 ≤ r.length) : be 4 (wordN (r.take 4)) = r.take 4 := by
  have e : (r.take 4).length = 4 := by rw [List.length_take]; omega
  have := be_wordN (r.take 4)
  rw [e] at this
  exact this

theorem partsB_cons (l : List UInt8) (ls : List (List UInt8)) : partsB (l :: ls) = be 4 l.length ++ (l ++ partsB ls) := by simp [partsB, partB]

theorem parse_enc : ∀ (ls : List (List UInt8)) (rest : List UInt8), (∀ l ∈ ls, l.length ≤ 4294967295) → parse ls.length (partsB ls ++ rest) = some (ls, rest)
  | [], rest, _ => rfl
  | l :: ls, rest, h => by
    have hl := h l (by simp)
    have hw : wordN (be 4 l.length) = l.length := wordN_be 4 _ (by omega)
    have e : partsB (l :: ls) ++ rest = be 4 l.length ++ (l ++ (partsB ls ++ rest)) := by rw [partsB_cons]; simp
    have ht : (be 4 l.length ++ (l ++ (partsB ls ++ rest))).take 4 = be 4 l.length := by rw [List.take_append_of_le_length (by rw [be_length]; omega), List.take_of_length_le (by rw [be_length]; omega)]
    have hd : (be 4 l.length ++ (l ++ (partsB ls ++ rest))).drop 4 = l ++ (partsB ls ++ rest) := by rw [List.drop_append_of_le_length (by rw [be_length]; omega), List.drop_of_length_le (by rw [be_length]; omega), List.nil_append]
    rw [e, List.length_cons, parse_succ, ht, hd, hw, if_neg (by rw [List.length_append, be_length]; omega), if_neg (by rw [List.length_append]; omega)]
    have h1 : (l ++ (partsB ls ++ rest)).take l.length = l := by simp
    have h2 : (l ++ (partsB ls ++ rest)).drop l.length = partsB ls ++ rest := by simp
    rw [h1, h2, parse_enc ls rest (fun x hx => h x (by simp [hx]))]
    rfl

theorem enc_parse : ∀ (n : Nat) (r : List UInt8) (ls : List (List UInt8)) (r' : List UInt8), parse n r = some (ls, r') → partsB ls ++ r' = r ∧ ∀ l ∈ ls, l.length ≤ 4294967295
  | 0, r, ls, r', h => by
    unfold parse at h
    injection h with h
    injection h with h1 h2
    subst h1 h2
    exact ⟨rfl, fun l hl => by cases hl⟩
  | n + 1, r, ls, r', h => by
    rw [parse_succ] at h
    split at h
    · cases h
    rename_i h4
    split at h
    · cases h
    rename_i hw
    rcases hp : parse n ((r.drop 4).drop (wordN (r.take 4))) with _ | ⟨ls2, r2⟩
    · rw [hp] at h; cases h
    · rw [hp] at h
      injection h with h
      injection h with h1 h2
      subst h1 h2
      obtain ⟨h3, h5⟩ := enc_parse n _ _ _ hp
      have hlt := wordN_lt4 (r.take 4) (List.length_take_le _ _)
      have hlen : ((r.drop 4).take (wordN (r.take 4))).length = wordN (r.take 4) := by rw [List.length_take]; omega
      refine ⟨?_, fun l hl => ?_⟩
      · rw [partsB_cons, hlen, be_take4 r (by omega), List.append_assoc, List.append_assoc, h3, List.take_append_drop, List.take_append_drop]
      · rcases List.mem_cons.1 hl with rfl | hl
        · omega
        · exact h5 l hl

theorem capC_nat (n : Nat) (h : n ≤ 4294967295) : (capC (n : Int)).toNat = n := by unfold capC; omega
theorem encT_cons (t : UInt8) (ls : List (List UInt8)) (h : ls.length ≤ 4294967295) : encT t ls = t :: (be 4 ls.length ++ partsB ls) := by
  unfold encT headT
  rw [capC_nat _ h]
  simp

theorem openS_enc (t : UInt8) (ls : List (List UInt8)) (h1 : ls.length ≤ 4294967295) (h2 : ∀ l ∈ ls, l.length ≤ 4294967295) : openS (encT t ls) = some (t, ls) := by
  have hw : wordN (be 4 ls.length) = ls.length := wordN_be 4 _ (by omega)
  have ht : (be 4 ls.length ++ partsB ls).take 4 = be 4 ls.length := by rw [List.take_append_of_le_length (by rw [be_length]; omega), List.take_of_length_le (by rw [be_length]; omega)]
  have hd : (be 4 ls.length ++ partsB ls).drop 4 = partsB ls := by rw [List.drop_append_of_le_length (by rw [be_length]; omega), List.drop_of_length_le (by rw [be_length]; omega), List.nil_append]
  have hp := parse_enc ls [] h2
  rw [List.append_nil] at hp
  rw [encT_cons t ls h1, openS_cons]
  unfold bodyS
  rw [if_neg (by rw [List.length_append, be_length]; omega), ht, hd, hw, hp]

theorem openS_inv (t : UInt8) (d : List UInt8) (ls : List (List UInt8)) (h : openS d = some (t, ls)) : encT t ls = d ∧ ls.length ≤ d.length ∧ ∀ l ∈ ls, l.length ≤ 4294967295 := by
  cases d with
  | nil => cases h
  | cons a r =>
    rw [openS_cons] at h
    rcases hb : bodyS r with _ | ⟨ls2, r2⟩
    · rw [hb] at h; cases h
    · rw [hb] at h
      cases r2 with
      | cons x y => cases h
      | nil =>
        injection h with h
        injection h with h1 h2
        subst h1 h2
        unfold bodyS at hb
        by_cases h4 : r.length < 4
        · rw [if_pos h4] at hb; cases hb
        · rw [if_neg h4] at hb
          have hlt := wordN_lt4 (r.take 4) (List.length_take_le _ _)
          obtain ⟨h5, h6⟩ := parse_len _ _ _ _ hb
          obtain ⟨h7, h8⟩ := enc_parse _ _ _ _ hb
          refine ⟨?_, ?_, h8⟩
          · rw [List.append_nil] at h7
            rw [encT_cons a ls2 (by omega), h6, be_take4 r (by omega), h7, List.take_append_drop]
          · simp only [List.length_drop, List.length_cons] at h5 ⊢
            omega

theorem encT_inj {s t : UInt8} {l m : List (List UInt8)} (h1 : l.length ≤ 4294967295) (h2 : ∀ x ∈ l, x.length ≤ 4294967295) (h3 : m.length ≤ 4294967295) (h4 : ∀ x ∈ m, x.length ≤ 4294967295) (h : encT s l = encT t m) : s = t ∧ l = m := by
  have e := openS_enc s l h1 h2
  rw [h, openS_enc t m h3 h4] at e
  injection e with e
  injection e with e1 e2
  exact ⟨e1.symm, e2.symm⟩
end Go.Proofs.Yteancgimgffkpaa
