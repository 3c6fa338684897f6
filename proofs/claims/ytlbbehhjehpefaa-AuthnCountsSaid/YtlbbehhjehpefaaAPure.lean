/- Layer 3: counting, without memory. -/
import Derived.Test.YtlbbehhjehpefaaANum
namespace Go.Proofs.Ytlbbehhjehpefaa
set_option linter.unusedVariables false

/-- how many distinct replicas are among l -/
def cntP (f : Int) (l : List Int) : Nat := (List.range (3 * f + 1).toNat).countP fun r : Nat => decide ((r : Int) ∈ l)
/-- those that are seen, one behind the other -/
def ddS (f : Int) (l : List Int) : List Int := l.foldl (fun seen x => if (repB f x && !decide (x ∈ seen)) = true then seen ++ [x] else seen) []
theorem ddS_take (f : Int) (l : List Int) (k : Nat) (h : k < l.length) : ddS f (l.take (k + 1)) = if (repB f l[k] && !decide (l[k] ∈ ddS f (l.take k))) = true then ddS f (l.take k) ++ [l[k]] else ddS f (l.take k) := by
  rw [List.take_succ_eq_append_getElem h]
  unfold ddS
  rw [List.foldl_append]
  rfl

theorem cnt_range (l : List Int) (x : Int) : ∀ n : Nat, (List.range n).countP (fun r : Nat => decide ((r : Int) ∈ l ++ [x])) = (List.range n).countP (fun r : Nat => decide ((r : Int) ∈ l)) + if 0 ≤ x ∧ x < n ∧ x ∉ l then 1 else 0
  | 0 => by
    have : ¬ (0 ≤ x ∧ x < ((0 : Nat) : Int) ∧ x ∉ l) := by omega
    rw [if_neg this]; rfl
  | n + 1 => by
    rw [List.range_succ, List.countP_append, List.countP_append, cnt_range l x n, List.countP_singleton, List.countP_singleton]
    by_cases hx : x = n
    · subst hx
      by_cases hm : ((n : Int)) ∈ l
      · simp [hm]
      · have h1 : ¬ (0 ≤ (n : Int) ∧ (n : Int) < (n : Int) ∧ (n : Int) ∉ l) := by omega
        have h2 : 0 ≤ (n : Int) ∧ (n : Int) < ((n + 1 : Nat) : Int) ∧ (n : Int) ∉ l := ⟨by omega, by omega, hm⟩
        rw [if_neg h1, if_pos h2]
        simp [hm]
    · have h1 : (n : Int) ≠ x := fun e => hx e.symm
      have h2 : (decide ((n : Int) ∈ l ++ [x])) = decide ((n : Int) ∈ l) := by simp [h1]
      have h3 : (0 ≤ x ∧ x < ((n + 1 : Nat) : Int) ∧ x ∉ l) ↔ (0 ≤ x ∧ x < (n : Int) ∧ x ∉ l) := by
        constructor
        · rintro ⟨a, b, c⟩; exact ⟨a, by omega, c⟩
        · rintro ⟨a, b, c⟩; exact ⟨a, by omega, c⟩
      rw [h2]
      simp only [h3]
      omega

theorem cnt_snoc (f : Int) (hf : 0 ≤ f) (l : List Int) (x : Int) : cntP f (l ++ [x]) = cntP f l + if (repB f x && !decide (x ∈ l)) = true then 1 else 0 := by
  unfold cntP
  rw [cnt_range l x]
  congr 1
  have e : (((3 * f + 1).toNat : Nat) : Int) = 3 * f + 1 := by omega
  rw [e]
  unfold repB
  by_cases h : 0 ≤ x ∧ x < 3 * f + 1 ∧ x ∉ l
  · rw [if_pos h, if_pos (by simp [h.1, h.2.1, h.2.2])]
  · rw [if_neg h, if_neg (by simp only [Bool.and_eq_true, decide_eq_true_eq, Bool.not_eq_true', decide_eq_false_iff_not]; exact fun h' => h ⟨h'.1.1, h'.1.2, h'.2⟩)]
theorem cnt_nil (f : Int) : cntP f [] = 0 := by simp [cntP]
theorem cnt_le (f : Int) (l : List Int) : cntP f l ≤ (3 * f + 1).toNat := by
  have := List.countP_le_length (p := fun r : Nat => decide ((r : Int) ∈ l)) (l := List.range (3 * f + 1).toNat)
  rwa [List.length_range] at this

theorem ddS_mem (f : Int) (l : List Int) : ∀ k, k ≤ l.length → (∀ x, x ∈ ddS f (l.take k) ↔ x ∈ l.take k ∧ repB f x = true)
  | 0, _ => by intro x; simp [ddS]
  | k + 1, h => by
    intro x
    have hk : k < l.length := by omega
    have ih := ddS_mem f l k (by omega)
    rw [ddS_take f l k hk, List.take_succ_eq_append_getElem hk]
    by_cases hc : (repB f l[k] && !decide (l[k] ∈ ddS f (l.take k))) = true
    · rw [if_pos hc]
      simp only [Bool.and_eq_true] at hc
      simp only [List.mem_append, List.mem_singleton, ih x]
      constructor
      · rintro (⟨h1, h2⟩ | rfl)
        · exact ⟨.inl h1, h2⟩
        · exact ⟨.inr rfl, hc.1⟩
      · rintro ⟨h1 | rfl, h2⟩
        · exact .inl ⟨h1, h2⟩
        · exact .inr rfl
    · rw [if_neg hc]
      simp only [List.mem_append, List.mem_singleton, ih x]
      constructor
      · rintro ⟨h1, h2⟩; exact ⟨.inl h1, h2⟩
      · rintro ⟨h1 | rfl, h2⟩
        · exact ⟨h1, h2⟩
        · have : l[k] ∈ ddS f (l.take k) := by
            rcases hd : decide (l[k] ∈ ddS f (l.take k)) with _ | _
            · rw [h2, hd] at hc; simp at hc
            · simpa using hd
          exact (ih _).1 this
theorem ddS_length (f : Int) (hf : 0 ≤ f) (l : List Int) : ∀ k, k ≤ l.length → (ddS f (l.take k)).length = cntP f (l.take k)
  | 0, _ => by simp [ddS, cnt_nil]
  | k + 1, h => by
    have hk : k < l.length := by omega
    have ih := ddS_length f hf l k (by omega)
    have hm := ddS_mem f l k (by omega) l[k]
    rw [ddS_take f l k hk, List.take_succ_eq_append_getElem hk, cnt_snoc f hf]
    have e : (repB f l[k] && !decide (l[k] ∈ ddS f (l.take k))) = (repB f l[k] && !decide (l[k] ∈ l.take k)) := by
      rcases hr : repB f l[k] with _ | _
      · rfl
      · have : (l[k] ∈ ddS f (l.take k)) ↔ (l[k] ∈ l.take k) := by rw [hm, hr]; simp
        simp only [this]
    rw [e]
    split
    · rw [List.length_append, List.length_singleton, ih]
    · rw [ih, Nat.add_zero]

/-- the first signer that is no replica, or stands ahead of itself -/
def badAt (f : Int) (l : List Int) (k : Nat) : Bool := !repB f (l.getD k 0) || decide (l.getD k 0 ∈ l.take k)
def disE (f : Int) (l : List Int) : Int := match (List.range l.length).find? (badAt f l) with
  | none => 0
  | some k => if repB f (l.getD k 0) = true then 33 else 30
theorem disE_ok {f : Int} {l : List Int} (h : ∀ j, j < l.length → badAt f l j = false) : disE f l = 0 := by
  unfold disE
  rw [List.find?_range_eq_none.2 (fun j hj => by rw [h j hj]; rfl)]
theorem disE_at {f : Int} {l : List Int} {k : Nat} (hk : k < l.length) (h : ∀ j, j < k → badAt f l j = false) (hb : badAt f l k = true) : disE f l = if repB f l[k] = true then 33 else 30 := by
  unfold disE
  rw [List.find?_range_eq_some.2 ⟨hb, List.mem_range.2 hk, fun j hj => by rw [h j hj]; rfl⟩]
  simp [hk]
theorem disE_zero {f : Int} {l : List Int} (h : disE f l = 0) : ∀ j, j < l.length → badAt f l j = false := by
  intro j hj
  rcases hb : badAt f l j with _ | _
  · rfl
  · exfalso
    rcases hfi : (List.range l.length).find? (badAt f l) with _ | k
    · have := List.find?_range_eq_none.1 hfi j hj
      rw [hb] at this; cases this
    · unfold disE at h
      rw [hfi] at h
      simp only at h
      split at h <;> omega
theorem disE_cnt {f : Int} (hf : 0 ≤ f) {l : List Int} (h : disE f l = 0) : cntP f l = l.length := by
  have hz := disE_zero h
  have : ∀ k, k ≤ l.length → cntP f (l.take k) = k := by
    intro k
    induction k with
    | zero => intro _; simp [cnt_nil]
    | succ k ih =>
      intro hk
      have hb := hz k (by omega)
      unfold badAt at hb
      simp only [Bool.or_eq_false_iff, Bool.not_eq_false', decide_eq_false_iff_not] at hb
      have e : l.getD k 0 = l[k] := by simp [show k < l.length by omega]
      rw [e] at hb
      rw [List.take_succ_eq_append_getElem (by omega), cnt_snoc f hf, ih (by omega), hb.1]
      simp [hb.2]
  have := this l.length (Nat.le_refl _)
  rwa [List.take_length] at this

/-- what two have in common -/
theorem count_both (p q : Nat → Bool) (R : List Nat) : R.countP p + R.countP q ≤ R.countP (fun r => p r && q r) + R.length := by
  induction R with
  | nil => simp
  | cons r R ih =>
    simp only [List.countP_cons, List.length_cons]
    cases p r <;> cases q r <;> simp <;> omega
theorem cnt_both (f : Int) (l m : List Int) : cntP f l + cntP f m ≤ cntP f (l.filter fun x => decide (x ∈ m)) + (3 * f + 1).toNat := by
  have h := count_both (fun r : Nat => decide ((r : Int) ∈ l)) (fun r : Nat => decide ((r : Int) ∈ m)) (List.range (3 * f + 1).toNat)
  rw [List.length_range] at h
  have e : (fun r : Nat => decide ((r : Int) ∈ l.filter fun x => decide (x ∈ m))) = fun r : Nat => decide ((r : Int) ∈ l) && decide ((r : Int) ∈ m) := by
    funext r
    rw [← Bool.decide_and]
    congr 1
    simp
  unfold cntP
  rw [e]
  exact h

/-- each leads once -/
theorem cnt_turns (f : Int) (hf : 0 ≤ f) (hf2 : f ≤ 2) (v : Int) (hv : 0 ≤ v) : cntP f ((List.range (3 * f + 1).toNat).map fun i : Nat => primE f (v + i)) = (3 * f + 1).toNat := by
  unfold cntP
  have : (List.range (3 * f + 1).toNat).countP (fun r : Nat => decide ((r : Int) ∈ (List.range (3 * f + 1).toNat).map fun (i : Nat) => primE f (v + i))) = (List.range (3 * f + 1).toNat).length := by
    rw [List.countP_eq_length]
    intro r hr
    have hr := List.mem_range.1 hr
    simp only [decide_eq_true_eq, List.mem_map, List.mem_range]
    obtain rfl | rfl | rfl : f = 0 ∨ f = 1 ∨ f = 2 := by omega
    · exact ⟨((r : Int) - v % 1 + 1).toNat % 1, by omega, by unfold primE; rw [if_neg (by omega)]; omega⟩
    · exact ⟨((r : Int) - v % 4 + 4).toNat % 4, by omega, by unfold primE; rw [if_neg (by omega)]; omega⟩
    · exact ⟨((r : Int) - v % 7 + 7).toNat % 7, by omega, by unfold primE; rw [if_neg (by omega)]; omega⟩
  rw [this, List.length_range]
end Go.Proofs.Ytlbbehhjehpefaa
