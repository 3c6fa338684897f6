/- What bytes are as parts: by definition; a round of a reader's loop. -/
import Derived.Test.YteancgimgffkpaaTOf
import Derived.Test.YteancgimgffkpaaRefC
namespace Go.Proofs.Yteancgimgffkpaa
open Go.RowKit
set_option linter.unusedVariables false

/-- so many parts, and what is left -/
def parse : Nat → List UInt8 → Option (List (List UInt8) × List UInt8)
  | 0, r => some ([], r)
  | n + 1, r => if r.length < 4 then none else if (r.drop 4).length < wordN (r.take 4) then none
    else (parse n ((r.drop 4).drop (wordN (r.take 4)))).map fun p => ((r.drop 4).take (wordN (r.take 4)) :: p.1, p.2)

/-- a count, and so many parts -/
def bodyS (r : List UInt8) : Option (List (List UInt8) × List UInt8) := if r.length < 4 then none else parse (wordN (r.take 4)) (r.drop 4)

/-- a digest's bytes as tag and parts -/
def openS : List UInt8 → Option (UInt8 × List (List UInt8))
  | [] => none
  | t :: r => match bodyS r with
    | some (ls, []) => some (t, ls)
    | _ => none

theorem openS_cons (t : UInt8) (r : List UInt8) : openS (t :: r) = match bodyS r with
    | some (ls, []) => some (t, ls)
    | _ => none := rfl
theorem parse_succ (n : Nat) (r : List UInt8) : parse (n + 1) r = if r.length < 4 then none else if (r.drop 4).length < wordN (r.take 4) then none
    else (parse n ((r.drop 4).drop (wordN (r.take 4)))).map fun p => ((r.drop 4).take (wordN (r.take 4)) :: p.1, p.2) := rfl

theorem parse_len : ∀ (n : Nat) (r : List UInt8) (ls : List (List UInt8)) (r' : List UInt8), parse n r = some (ls, r') → 4 * n + r'.length ≤ r.length ∧ ls.length = n
  | 0, r, ls, r', h => by
    unfold parse at h
    injection h with h
    injection h with h1 h2
    subst h1 h2
    simp
  | n + 1, r, ls, r', h => by
    unfold parse at h
    split at h
    · cases h
    split at h
    · cases h
    rcases hp : parse n ((r.drop 4).drop (wordN (r.take 4))) with _ | ⟨ls2, r2⟩
    · rw [hp] at h; cases h
    · rw [hp] at h
      injection h with h
      injection h with h1 h2
      subst h1 h2
      have := parse_len n _ _ _ hp
      simp only [List.length_drop] at this
      simp only [List.length_cons]
      omega

theorem bytesF_pass (most : Int) (rest : List UInt8) (h1 : 4 ≤ rest.length) (h2 : wordN (rest.take 4) ≤ (rest.drop 4).length) (h3 : (rest.length : Int) ≤ most ∨ 4294967295 ≤ most) :
    bytesF most rest 0 = ((rest.drop 4).take (wordN (rest.take 4)), (rest.drop 4).drop (wordN (rest.take 4)), 0) := by
  have h4 := wordN_lt4 (rest.take 4) (List.length_take_le _ _)
  have hd : (rest.drop 4).length = rest.length - 4 := List.length_drop ..
  have hst : stepF 4 (alCount most) rest 0 = (wordN (rest.take 4), rest.drop 4, 0) := by
    unfold stepF alCount ceilE
    rw [if_neg (by simp), if_neg (by omega), if_neg (by rw [if_neg (by omega)]; decide)]
  have := bytesF_good most rest (by rw [hst]) (by rw [hst]; simp only; omega)
  rw [this, hst]

theorem bytesF_fail (most : Int) (rest : List UInt8) (h : rest.length < 4 ∨ (rest.drop 4).length < wordN (rest.take 4)) : (bytesF most rest 0).2.2 ≠ 0 := by
  by_cases hs : (stepF 4 (alCount most) rest 0).2.2 = 0
  · obtain ⟨-, h4, -, h5⟩ := stepF_ok hs
    have hd : (rest.drop 4).length = rest.length - 4 := List.length_drop ..
    rw [bytesF_short most rest hs (by rw [h5]; simp only; omega)]
    exact (by decide : (10 : Int) ≠ 0)
  · rw [bytesF_err most rest 0 hs]
    exact hs

/-- where a loop stands: k of n parts of r0 are ys, and what is left is rest; or an error has come -/
def At (n : Nat) (r0 : List UInt8) (k : Nat) (ys : List (List UInt8)) (rest : List UInt8) (err : Int) : Prop :=
  k ≤ n ∧ (err = 0 → parse n r0 = (parse (n - k) rest).map fun p => (ys ++ p.1, p.2)) ∧ (err ≠ 0 → parse n r0 = none)

theorem At.start (n : Nat) (r0 : List UInt8) : At n r0 0 [] r0 0 := by
  refine ⟨Nat.zero_le _, fun _ => ?_, fun h => absurd rfl h⟩
  rw [Nat.sub_zero]
  cases parse n r0 <;> rfl

theorem At.step {n k : Nat} {r0 rest : List UInt8} {ys : List (List UInt8)} (h : At n r0 k ys rest 0) (hk : k < n) (most : Int) (hm : (rest.length : Int) ≤ most ∨ 4294967295 ≤ most) :
    At n r0 (k + 1) (ys ++ [(bytesF most rest 0).1]) (bytesF most rest 0).2.1 (bytesF most rest 0).2.2 := by
  obtain ⟨h1, h2, -⟩ := h
  have h2 := h2 rfl
  obtain ⟨m, hm1⟩ : ∃ m, n - k = m + 1 := ⟨n - k - 1, by omega⟩
  have hm2 : n - (k + 1) = m := by omega
  rw [hm1, parse_succ] at h2
  by_cases hl : rest.length < 4
  · rw [if_pos hl] at h2
    exact ⟨hk, fun h => absurd h (bytesF_fail most rest (.inl hl)), fun _ => h2⟩
  · rw [if_neg hl] at h2
    by_cases hw : (rest.drop 4).length < wordN (rest.take 4)
    · rw [if_pos hw] at h2
      exact ⟨hk, fun h => absurd h (bytesF_fail most rest (.inr hw)), fun _ => h2⟩
    · rw [if_neg hw] at h2
      rw [bytesF_pass most rest (by omega) (by omega) hm]
      refine ⟨hk, fun _ => ?_, fun h => absurd rfl h⟩
      rw [h2, hm2]
      simp only
      cases parse m ((rest.drop 4).drop (wordN (rest.take 4))) with
      | none => rfl
      | some p => simp

theorem At.all {n k : Nat} {r0 rest : List UInt8} {ys : List (List UInt8)} (h : At n r0 k ys rest 0) (hk : ¬k < n) : parse n r0 = some (ys, rest) := by
  obtain ⟨h1, h2, -⟩ := h
  rw [h2 rfl, show n - k = 0 by omega]
  simp [parse]

/-- what stands behind both: the count's own error, or the loop's end -/
def Body (r : List UInt8) (ys : List (List UInt8)) (rest : List UInt8) (err : Int) : Prop := (err = 0 → bodyS r = some (ys, rest)) ∧ (err ≠ 0 → bodyS r = none)

theorem Body.open {t : UInt8} {r rest : List UInt8} {ys : List (List UInt8)} {err : Int} (h : Body r ys rest err) : (endE rest err = 0 → openS (t :: r) = some (t, ys)) ∧ (endE rest err ≠ 0 → openS (t :: r) = none) := by
  unfold endE
  constructor
  · intro he
    by_cases hc : err = 0 ∧ rest ≠ []
    · rw [if_pos hc] at he; cases he
    · rw [if_neg hc] at he
      have hr : rest = [] := by
        by_cases hr : rest = []
        · exact hr
        · exact absurd ⟨he, hr⟩ hc
      subst hr
      rw [openS_cons]
      rw [h.1 he]
  · intro he
    by_cases h0 : err = 0
    · have hb := h.1 h0
      by_cases hr : rest = []
      · rw [if_neg (by rintro ⟨-, h⟩; exact h hr)] at he
        exact absurd h0 he
      · rw [openS_cons]
        rw [hb]
        cases rest with
        | nil => exact absurd rfl hr
        | cons a b => rfl
    · rw [openS_cons]
      rw [h.2 h0]

/-! a count that is read -/
theorem count_lt (most : Int) (r : List UInt8) (e : Int) : (stepF 4 (alCount most) r e).1 ≤ 4294967295 := by
  unfold stepF
  split
  · simp
  split
  · simp
  split
  · simp
  · exact wordN_lt4 _ (List.length_take_le _ _)
theorem wrap64_small (n : Nat) (h : n ≤ 4294967295) : wrap64 (n : Int) = n := by unfold wrap64; omega

/-- behind the count the loop stands at its start; or there is an error, and no round -/
theorem count_at (most : Int) (r : List UInt8) (hm : most = r.length ∨ 4294967295 ≤ most) :
    ((stepF 4 (alCount most) r 0).2.2 = 0 ∧ At (stepF 4 (alCount most) r 0).1 (r.drop 4) 0 [] (stepF 4 (alCount most) r 0).2.1 0 ∧ bodyS r = parse (stepF 4 (alCount most) r 0).1 (r.drop 4)) ∨
    ((stepF 4 (alCount most) r 0).2.2 ≠ 0 ∧ (stepF 4 (alCount most) r 0).1 = 0 ∧ bodyS r = none) := by
  have h4 := wordN_lt4 (r.take 4) (List.length_take_le _ _)
  unfold bodyS stepF
  rw [if_neg (by simp)]
  by_cases hl : r.length < 4
  · rw [if_pos hl, if_pos hl]
    exact .inr ⟨(by decide : (10 : Int) ≠ 0), rfl, rfl⟩
  · rw [if_neg hl, if_neg hl]
    by_cases hc : alCount most (wordN (r.take 4)) ≠ 0
    · rw [if_pos hc]
      refine .inr ⟨hc, rfl, ?_⟩
      unfold alCount ceilE at hc
      rcases hm with hm | hm
      · have hbig : r.length < wordN (r.take 4) := by
          by_cases hb : max most 0 < (wordN (r.take 4) : Int)
          · omega
          · rw [if_neg hb] at hc; exact absurd rfl hc
        rcases hp : parse (wordN (r.take 4)) (r.drop 4) with _ | ⟨ls, r'⟩
        · rfl
        · have := parse_len _ _ _ _ hp
          simp only [List.length_drop] at this
          omega
      · rw [if_neg (by omega)] at hc
        exact absurd rfl hc
    · rw [if_neg hc]
      exact .inl ⟨rfl, At.start _ _, rfl⟩
end Go.Proofs.Yteancgimgffkpaa
