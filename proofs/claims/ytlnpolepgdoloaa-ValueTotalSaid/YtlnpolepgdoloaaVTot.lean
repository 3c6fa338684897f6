/- Layer 4: the order is total. -/
import Derived.Test.YtlnpolepgdoloaaVREq
namespace Go.Proofs.Ytlnpolepgdoloaa
open Go.RowKit
set_option linter.unusedVariables false
set_option linter.unusedSimpArgs false
set_option maxRecDepth 20000

theorem cmpI_swap (x y : Int) : cmpI y x = -cmpI x y := by unfold cmpI; split <;> split <;> omega
theorem cmpI_self (x : Int) : cmpI x x = 0 := cmpI_eq rfl
theorem cmpI_range (x y : Int) : -1 ≤ cmpI x y ∧ cmpI x y ≤ 1 := by unfold cmpI; split <;> (try split) <;> omega
theorem cmpI_le (x y : Int) : cmpI x y ≤ 0 ↔ x ≤ y := by unfold cmpI; split <;> (try split) <;> omega
theorem cmpI_neg (x y : Int) : cmpI x y < 0 ↔ x < y := by unfold cmpI; split <;> (try split) <;> omega
theorem cmpI_zero (x y : Int) : cmpI x y = 0 ↔ x = y := by unfold cmpI; split <;> (try split) <;> omega

theorem u8_lt (a b : UInt8) : a < b ↔ a.toNat < b.toNat := UInt8.lt_iff_toNat_lt
theorem u8_eq (a b : UInt8) : a = b ↔ a.toNat = b.toNat := ⟨fun h => by rw [h], fun h => UInt8.toNat_inj.1 h⟩
theorem bl_cons (a b : UInt8) (x y : List UInt8) : Op.bytesLess (a :: x) (b :: y) = (decide (a < b) || (a == b && Op.bytesLess x y)) := rfl
theorem bl_iff (a b : UInt8) (x y : List UInt8) : Op.bytesLess (a :: x) (b :: y) = true ↔ (a.toNat < b.toNat ∨ (a.toNat = b.toNat ∧ Op.bytesLess x y = true)) := by
  rw [bl_cons, Bool.or_eq_true, Bool.and_eq_true, decide_eq_true_eq, beq_iff_eq, u8_lt, u8_eq]
theorem bl_irr : ∀ x : List UInt8, Op.bytesLess x x = false
  | [] => rfl
  | a :: x => by
    rw [← Bool.not_eq_true, bl_iff, bl_irr x]; simp
theorem bl_trans : ∀ x y z : List UInt8, Op.bytesLess x y = true → Op.bytesLess y z = true → Op.bytesLess x z = true
  | [], [], _, h, _ => by cases h
  | _ :: _, [], _, h, _ => by cases h
  | _, _ :: _, [], _, h => by cases h
  | [], b :: y, c :: z, _, _ => rfl
  | a :: x, b :: y, c :: z, h1, h2 => by
    rw [bl_iff] at *
    rcases h1 with h1 | ⟨h1, h3⟩ <;> rcases h2 with h2 | ⟨h2, h4⟩
    · left; omega
    · left; omega
    · left; omega
    · exact .inr ⟨by omega, bl_trans x y z h3 h4⟩
theorem bl_total : ∀ x y : List UInt8, Op.bytesLess x y = false → Op.bytesLess y x = false → x = y
  | [], [], _, _ => rfl
  | [], b :: y, h, _ => by cases h
  | a :: x, [], _, h => by cases h
  | a :: x, b :: y, h1, h2 => by
    rw [← Bool.not_eq_true, bl_iff] at h1 h2
    have e : a.toNat = b.toNat := by omega
    rw [bl_total x y (by rw [← Bool.not_eq_true]; intro h; exact h1 (.inr ⟨e, h⟩)) (by rw [← Bool.not_eq_true]; intro h; exact h2 (.inr ⟨e.symm, h⟩)), (u8_eq a b).2 e]
theorem bl_asym (x y : List UInt8) (h : Op.bytesLess x y = true) : Op.bytesLess y x = false := by
  rw [← Bool.not_eq_true]; intro h2
  have := bl_trans x y x h h2
  rw [bl_irr] at this; cases this

theorem cmpS_self (x : List UInt8) : cmpS x x = 0 := by unfold cmpS; rw [bl_irr]; simp
theorem cmpS_cases (x y : List UInt8) : (cmpS x y = -1 ∧ Op.bytesLess x y = true) ∨ (cmpS x y = 0 ∧ x = y) ∨ (cmpS x y = 1 ∧ Op.bytesLess y x = true) := by
  unfold cmpS
  rcases h : Op.bytesLess x y with _ | _
  · rcases h2 : (x == y) with _ | _
    · right; right
      refine ⟨by simp, ?_⟩
      rw [← Bool.not_eq_false]; intro h3
      have := bl_total x y h h3
      rw [beq_eq_false_iff_ne] at h2; exact h2 this
    · right; left; exact ⟨by simp, by simpa using h2⟩
  · left; exact ⟨by simp, rfl⟩
theorem cmpS_swap (x y : List UInt8) : cmpS y x = -cmpS x y := by
  rcases cmpS_cases x y with ⟨h, g⟩ | ⟨h, g⟩ | ⟨h, g⟩
  · rw [h]; rcases cmpS_cases y x with ⟨h', g'⟩ | ⟨h', g'⟩ | ⟨h', g'⟩
    · rw [bl_asym x y g] at g'; cases g'
    · subst g'; rw [bl_irr] at g; cases g
    · rw [h']; rfl
  · subst g; rw [cmpS_self]; rfl
  · rw [h]; unfold cmpS; rw [g]; rfl
theorem cmpS_range (x y : List UInt8) : -1 ≤ cmpS x y ∧ cmpS x y ≤ 1 := by rcases cmpS_cases x y with ⟨h, -⟩ | ⟨h, -⟩ | ⟨h, -⟩ <;> omega
theorem cmpS_trans (x y z : List UInt8) (h1 : cmpS x y ≤ 0) (h2 : cmpS y z ≤ 0) : cmpS x z ≤ 0 ∧ (cmpS x y < 0 → cmpS x z < 0) := by
  rcases cmpS_cases x y with ⟨a, b⟩ | ⟨a, b⟩ | ⟨a, b⟩
  · rcases cmpS_cases y z with ⟨c, d⟩ | ⟨c, d⟩ | ⟨c, d⟩
    · have := bl_trans x y z b d
      have e : cmpS x z = -1 := by unfold cmpS; rw [this]; rfl
      omega
    · subst d; omega
    · omega
  · subst b; omega
  · omega
theorem cmpS_zero (x y : List UInt8) : cmpS x y = 0 ↔ x = y := by
  constructor
  · intro h; rcases cmpS_cases x y with ⟨a, b⟩ | ⟨a, b⟩ | ⟨a, b⟩
    · omega
    · exact b
    · omega
  · rintro rfl; exact cmpS_self x

theorem ordV_swap (a c : Vl) : ordV c a = -ordV a c := by
  unfold ordV
  by_cases h : a.k = c.k
  · rw [if_pos h, if_pos h.symm]
    unfold ordK
    rw [← h]
    split
    · exact cmpI_swap _ _
    split
    · exact cmpI_swap _ _
    split
    · exact cmpS_swap _ _
    split
    · exact cmpI_swap _ _
    · rfl
  · rw [if_neg h, if_neg (fun g => h g.symm)]; exact cmpI_swap _ _
theorem ordV_self (a : Vl) : ordV a a = 0 := by
  unfold ordV; rw [if_pos rfl]; unfold ordK
  split
  · exact cmpI_self _
  split
  · exact cmpI_self _
  split
  · exact cmpS_self _
  split
  · exact cmpI_self _
  · rfl
theorem ordV_range (a c : Vl) : -1 ≤ ordV a c ∧ ordV a c ≤ 1 := by
  unfold ordV
  split
  · unfold ordK
    split
    · exact cmpI_range _ _
    split
    · exact cmpI_range _ _
    split
    · exact cmpS_range _ _
    split
    · exact cmpI_range _ _
    · omega
  · exact cmpI_range _ _
theorem cmpI_trans (x y z : Int) (h1 : cmpI x y ≤ 0) (h2 : cmpI y z ≤ 0) : cmpI x z ≤ 0 ∧ (cmpI x y < 0 → cmpI x z < 0) := by
  rw [cmpI_le] at *; rw [cmpI_neg, cmpI_neg]; omega
theorem ordK_trans (a b c : Vl) (e : b.k = a.k) (h1 : ordK a b ≤ 0) (h2 : ordK b c ≤ 0) : ordK a c ≤ 0 ∧ (ordK a b < 0 → ordK a c < 0) := by
  unfold ordK at h1 h2 ⊢
  rw [e] at h2
  by_cases k1 : a.k = 1
  · rw [if_pos k1] at h1 h2 ⊢; rw [if_pos k1]; exact cmpI_trans _ _ _ h1 h2
  · rw [if_neg k1] at h1 h2 ⊢
    rw [if_neg k1]
    by_cases k2 : a.k = 2
    · rw [if_pos k2] at h1 h2 ⊢; rw [if_pos k2]; exact cmpI_trans _ _ _ h1 h2
    · rw [if_neg k2] at h1 h2 ⊢
      rw [if_neg k2]
      by_cases k3 : a.k = 3
      · rw [if_pos k3] at h1 h2 ⊢; rw [if_pos k3]; exact cmpS_trans _ _ _ h1 h2
      · rw [if_neg k3] at h1 h2 ⊢
        rw [if_neg k3]
        by_cases k4 : a.k = 4
        · rw [if_pos k4] at h1 h2 ⊢; rw [if_pos k4]; exact cmpI_trans _ _ _ h1 h2
        · rw [if_neg k4, if_neg k4]; exact ⟨Int.le_refl 0, fun h => h⟩
theorem ordV_same {a c : Vl} (h : a.k = c.k) : ordV a c = ordK a c := if_pos h
theorem ordV_apart {a c : Vl} (h : a.k ≠ c.k) : ordV a c = cmpI a.k c.k := if_neg h
theorem ordV_trans (a b c : Vl) (h1 : ordV a b ≤ 0) (h2 : ordV b c ≤ 0) : ordV a c ≤ 0 ∧ (ordV a b < 0 → ordV a c < 0) := by
  by_cases e1 : a.k = b.k
  · by_cases e2 : b.k = c.k
    · rw [ordV_same e1] at h1 ⊢
      rw [ordV_same e2] at h2
      rw [ordV_same (e1.trans e2)]
      exact ordK_trans a b c e1.symm h1 h2
    · rw [ordV_apart e2, cmpI_le] at h2
      have e3 : a.k ≠ c.k := fun g => e2 (e1.symm.trans g)
      rw [ordV_apart e3, cmpI_le, cmpI_neg]
      exact ⟨by omega, fun _ => by omega⟩
  · rw [ordV_apart e1, cmpI_le] at h1
    by_cases e2 : b.k = c.k
    · have e3 : a.k ≠ c.k := fun g => e1 (g.trans e2.symm)
      rw [ordV_apart e3, ordV_apart e1, cmpI_le, cmpI_neg, cmpI_neg]
      exact ⟨by omega, fun _ => by omega⟩
    · rw [ordV_apart e2, cmpI_le] at h2
      have e3 : a.k ≠ c.k := by omega
      rw [ordV_apart e3, ordV_apart e1, cmpI_le, cmpI_neg, cmpI_neg]
      exact ⟨by omega, fun _ => by omega⟩

theorem not_top (k : Nat) : numW k ≠ 18446744073709551615 := by
  intro h
  rcases hk : nanB k with _ | _
  · have e : numW k = k := by unfold numW; rw [hk]; rfl
    rw [e] at h
    have hn : nanB 18446744073709551615 = true := by rw [nanB_iff]; decide
    rw [h] at hk
    rw [hk] at hn
    cases hn
  · have e := (numW_eq_nan k).2 hk
    rw [e] at h
    omega
theorem rank_arith (x y N H T : Nat) (h0 : x < T + 1) (h1 : y < T + 1) (g1 : x ≠ T) (g2 : y ≠ T) (hT : T = 2 * H - 1) (hH : 1 ≤ H) : ((if x = N then 0 else if H ≤ x then T - x else x + H) = (if y = N then 0 else if H ≤ y then T - y else y + H)) ↔ x = y := by
  constructor
  · intro h
    by_cases a1 : x = N
    · by_cases b1 : y = N
      · omega
      · rw [if_pos a1, if_neg b1] at h
        by_cases b2 : H ≤ y
        · rw [if_pos b2] at h; omega
        · rw [if_neg b2] at h; omega
    · rw [if_neg a1] at h
      by_cases b1 : y = N
      · rw [if_pos b1] at h
        by_cases a2 : H ≤ x
        · rw [if_pos a2] at h; omega
        · rw [if_neg a2] at h; omega
      · rw [if_neg b1] at h
        by_cases a2 : H ≤ x <;> by_cases b2 : H ≤ y
        · rw [if_pos a2, if_pos b2] at h; omega
        · rw [if_pos a2, if_neg b2] at h; omega
        · rw [if_neg a2, if_pos b2] at h; omega
        · rw [if_neg a2, if_neg b2] at h; omega
  · intro h; rw [h]
theorem flRank_eq (m n : Nat) (hm : m < 18446744073709551616) (hn : n < 18446744073709551616) : flRank m = flRank n ↔ numW m = numW n := by
  rw [flRank_num m hm, flRank_num n hn]
  exact rank_arith (numW m) (numW n) _ _ _ (vNumW_lt m hm) (vNumW_lt n hn) (not_top m) (not_top n) rfl (by omega)
theorem ordV_zero (a c : Vl) (ha : goodV a = true) (hc : goodV c = true) (hna : a.n < 18446744073709551616) (hnc : c.n < 18446744073709551616) : (ordV a c == 0) = sameV a c := by
  obtain ⟨a1, -, a2, a3, a4, a5⟩ := good_parts ha
  obtain ⟨c1, -, c2, c3, c4, c5⟩ := good_parts hc
  unfold ordV
  by_cases hk : a.k = c.k
  · rw [if_pos hk]
    unfold ordK sameV
    rw [Bool.eq_iff_iff]
    simp only [Bool.and_eq_true, beq_iff_eq]
    rcases a1 with e | e | e | e
    · rw [if_pos e, a3 (by omega), c3 (by omega), a4 (by omega), c4 (by omega), a5 (by omega), c5 (by omega), cmpI_zero]; simp [hk]
    · rw [if_neg (by omega), if_pos e, a2 (by omega), c2 (by omega), a4 (by omega), c4 (by omega), a5 (by omega), c5 (by omega), cmpI_zero]
      rcases a.b with _ | _ <;> rcases c.b with _ | _ <;> simp [b2i, hk]
    · rw [if_neg (by omega), if_neg (by omega), if_pos e, a2 (by omega), c2 (by omega), a3 (by omega), c3 (by omega), a5 (by omega), c5 (by omega), cmpS_zero]; simp [hk]
    · rw [if_neg (by omega), if_neg (by omega), if_neg (by omega), if_pos e, a2 (by omega), c2 (by omega), a3 (by omega), c3 (by omega), a4 (by omega), c4 (by omega), cmpI_zero]
      have := flRank_eq a.n c.n hna hnc
      constructor
      · intro h; exact ⟨⟨⟨⟨hk, rfl⟩, rfl⟩, rfl⟩, this.1 (by omega)⟩
      · intro h; have := this.2 h.2; omega
  · rw [if_neg hk]
    have h1 : (cmpI a.k c.k == 0) = false := by
      rw [beq_eq_false_iff_ne]; intro h; exact hk ((cmpI_zero _ _).1 h)
    rw [h1]
    unfold sameV
    have h2 : (a.k == c.k) = false := by simpa using hk
    rw [h2]; rfl
end Go.Proofs.Ytlnpolepgdoloaa
