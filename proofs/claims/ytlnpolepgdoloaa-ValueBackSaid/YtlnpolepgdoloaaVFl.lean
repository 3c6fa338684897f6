/- Floats: a float as an int whose order is the float's; the lesser and the greater by their places. -/
import Derived.Test.YtlnpolepgdoloaaPut2
namespace Go.Proofs.Ytlnpolepgdoloaa
set_option linter.unusedVariables false
set_option linter.unusedSimpArgs false

/-- a rung's magnitude, in units of the least place -/
def flUnits (B r : Nat) : Nat := if r < B then r else (B + r % B) * 2 ^ (r / B - 1)
theorem flUnits_step (B r : Nat) (hB : 0 < B) : flUnits B r < flUnits B (r + 1) := by
  unfold flUnits
  by_cases h : r + 1 < B
  · rw [if_pos h, if_pos (by omega)]; omega
  · rw [if_neg h]
    by_cases h2 : r < B
    · have e : r + 1 = B := by omega
      rw [if_pos h2, e, Nat.mod_self, Nat.div_self hB]; simp; omega
    · rw [if_neg h2]
      have hm := Nat.mod_lt r hB
      have hd := Nat.div_add_mod r B
      have hk : 1 ≤ r / B := (Nat.one_le_div_iff hB).2 (by omega)
      by_cases h3 : r % B + 1 < B
      · have e1 : (r + 1) % B = r % B + 1 := by
          conv => lhs; rw [← hd, Nat.add_assoc, Nat.mul_add_mod]
          exact Nat.mod_eq_of_lt h3
        have e2 : (r + 1) / B = r / B := by
          conv => lhs; rw [← hd, Nat.add_assoc, Nat.mul_add_div hB]
          rw [Nat.div_eq_of_lt h3, Nat.add_zero]
        rw [e1, e2]
        exact Nat.mul_lt_mul_of_pos_right (by omega) (Nat.two_pow_pos _)
      · have e0 : r % B + 1 = B := by omega
        have e1 : (r + 1) % B = 0 := by
          conv => lhs; rw [← hd, Nat.add_assoc, Nat.mul_add_mod, e0]
          exact Nat.mod_self _
        have e2 : (r + 1) / B = r / B + 1 := by
          conv => lhs; rw [← hd, Nat.add_assoc, Nat.mul_add_div hB, e0]
          rw [Nat.div_self hB]
        rw [e1, e2, Nat.add_zero, show r / B + 1 - 1 = (r / B - 1) + 1 by omega, Nat.pow_succ]
        have hp := Nat.two_pow_pos (r / B - 1)
        have : (B + r % B) * 2 ^ (r / B - 1) < (2 * B) * 2 ^ (r / B - 1) := Nat.mul_lt_mul_of_pos_right (by omega) hp
        calc _ < _ := this
          _ = _ := by rw [Nat.mul_comm (2 ^ _) 2, ← Nat.mul_assoc, Nat.mul_comm B 2]
theorem flUnits_mono (B : Nat) (hB : 0 < B) : ∀ (r d : Nat), flUnits B r < flUnits B (r + d + 1) := by
  intro r d
  induction d with
  | zero => exact flUnits_step B r hB
  | succ d ih => exact Nat.lt_trans ih (flUnits_step B (r + d + 1) hB)
theorem flUnits_lt (B : Nat) (hB : 0 < B) {p q : Nat} (h : p < q) : flUnits B p < flUnits B q := by
  have := flUnits_mono B hB p (q - p - 1)
  rwa [show p + (q - p - 1) + 1 = q by omega] at this
theorem flUnits_zero (B : Nat) (hB : 0 < B) : flUnits B 0 = 0 := by unfold flUnits; rw [if_pos hB]

theorem flCmp_int (x y : Int) : compare x y = if x < y then Ordering.lt else if x = y then .eq else .gt := rfl
/-- a sign and a size, as an int -/
def flSg (s : Bool) (n : Nat) : Int := if s then -(n : Int) else n
theorem flSg_cmp (V : Nat → Nat) (h0 : V 0 = 0) (hV : ∀ p q, p < q → V p < V q) (s t : Bool) (p q : Nat) :
    compare (flSg s (V p)) (flSg t (V q)) = compare (flSg s p) (flSg t q) := by
  have hpos : ∀ n, 0 < n → 0 < V n := fun n hn => by have := hV 0 n hn; omega
  have hz : ∀ n, V n = 0 ↔ n = 0 := fun n => ⟨fun h => by rcases Nat.eq_zero_or_pos n with e | e; exact e; have := hpos n e; omega, fun h => by rw [h, h0]⟩
  rcases Nat.lt_trichotomy p q with h | h | h
  · have h1 := hV p q h
    have hp := hz p; have hq := hpos q (by omega)
    cases s <;> cases t <;> simp only [flSg, Bool.false_eq_true, if_true, if_false] <;> rw [flCmp_int, flCmp_int] <;> (repeat' split) <;> first | rfl | (exfalso; omega)
  · subst h
    have hp := hz p
    cases s <;> cases t <;> simp only [flSg, Bool.false_eq_true, if_true, if_false] <;> rw [flCmp_int, flCmp_int] <;> (repeat' split) <;> first | rfl | (exfalso; omega)
  · have h1 := hV q p h
    have hp := hz q; have hq := hpos p (by omega)
    cases s <;> cases t <;> simp only [flSg, Bool.false_eq_true, if_true, if_false] <;> rw [flCmp_int, flCmp_int] <;> (repeat' split) <;> first | rfl | (exfalso; omega)

theorem flCmp_scale (x y c : Int) (hc : 0 < c) : compare (x * c) (y * c) = compare x y := by
  rw [flCmp_int, flCmp_int]
  have h1 : x * c < y * c ↔ x < y := Int.mul_lt_mul_right hc
  have h2 : x * c = y * c ↔ x = y := ⟨fun h => Int.eq_of_mul_eq_mul_right (by omega) h, fun h => by rw [h]⟩
  simp only [h1, h2]
theorem flSigned_scale (s : Bool) (m u c : Nat) : Ieee.signed s m u * ((2 ^ c : Nat) : Int) = flSg s (m * 2 ^ (u + c)) := by
  unfold Ieee.signed flSg
  rw [Nat.shiftLeft_eq, Nat.pow_add]
  cases s
  · simp only [Bool.false_eq_true, if_false]; rw [← Nat.mul_assoc]; exact (Int.natCast_mul _ _).symm
  · simp only [if_true]; rw [← Nat.mul_assoc, Int.neg_mul]; congr 1
theorem flNumber_order (L : Int) (s t : Bool) (m n : Nat) (i j : Nat) :
    (Ieee.Datum.number s m (L + i)).order (.number t n (L + j)) = some (compare (flSg s (m * 2 ^ i)) (flSg t (n * 2 ^ j))) := by
  simp only [Ieee.Datum.order]
  congr 1
  generalize hb : min (L + (i : Int)) (L + (j : Int)) = base
  have h1 := flSigned_scale s m (L + i - base).toNat (base - L).toNat
  have h2 := flSigned_scale t n (L + j - base).toNat (base - L).toNat
  rw [show (L + i - base).toNat + (base - L).toNat = i by omega] at h1
  rw [show (L + j - base).toNat + (base - L).toNat = j by omega] at h2
  rw [← h1, ← h2, flCmp_scale _ _ _ (by exact_mod_cast Nat.two_pow_pos _)]

/-- a word's sign, its rung -/
def flSgn (b : Nat) : Bool := b / 2 ^ 63 % 2 == 1
def flRng (b : Nat) : Nat := b % 2 ^ 63
def flInf : Nat := 0x7ff0000000000000
theorem fl_sw : FloatKind.f64.format.signWeight = 2 ^ 63 := rfl
theorem fl_bin : FloatKind.f64.format.binade = 2 ^ 52 := rfl
theorem fl_inf : FloatKind.f64.format.infRung = flInf := by decide
theorem flRead_eq (b : Nat) : FloatKind.f64.format.read b = if flRng b < flInf then .number (flSgn b) (if flRng b < 2 ^ 52 then flRng b else 2 ^ 52 + flRng b % 2 ^ 52) (FloatKind.f64.format.leastPlace + ((flRng b / 2 ^ 52 - 1 : Nat) : Int)) else if flRng b = flInf then .infinity (flSgn b) else .nan (flSgn b) (flRng b - flInf) := by
  unfold Ieee.Format.read
  simp only [fl_sw, fl_bin, fl_inf]
  show (if flRng b < 2 ^ 52 then Ieee.Datum.number (flSgn b) (flRng b) _ else _) = _
  by_cases h : flRng b < 2 ^ 52
  · have h' : flRng b < flInf := by unfold flInf; omega
    rw [if_pos h, if_pos h', if_pos h, Nat.div_eq_of_lt h]
    simp
  · rw [if_neg h, if_neg h]; rfl
theorem flMag_units (r : Nat) : (if r < 2 ^ 52 then r else 2 ^ 52 + r % 2 ^ 52) * 2 ^ (r / 2 ^ 52 - 1) = flUnits (2 ^ 52) r := by
  unfold flUnits
  by_cases h : r < 2 ^ 52
  · rw [if_pos h, if_pos h, Nat.div_eq_of_lt h]; simp
  · rw [if_neg h, if_neg h]
/-- a float's place as an int -/
def flKey (b : Nat) : Int := flSg (flSgn b) (flRng b)
theorem flOrder_key (a b : Nat) (ha : flRng a ≤ flInf) (hb : flRng b ≤ flInf) : FloatKind.f64.format.order a b = some (compare (flKey a) (flKey b)) := by
  unfold Ieee.Format.order
  rw [flRead_eq a, flRead_eq b]
  unfold flKey
  by_cases h1 : flRng a < flInf <;> by_cases h2 : flRng b < flInf
  · rw [if_pos h1, if_pos h2, flNumber_order, flMag_units, flMag_units, flSg_cmp _ (flUnits_zero _ (by decide)) (fun p q h => flUnits_lt _ (by decide) h)]
  · rw [if_pos h1, if_neg h2, if_pos (show flRng b = flInf by omega)]
    simp only [Ieee.Datum.order]
    congr 1
    rw [flCmp_int]
    cases flSgn a <;> cases flSgn b <;> simp only [flSg, Bool.false_eq_true, if_true, if_false] <;> (repeat' split) <;> first | rfl | (exfalso; omega)
  · rw [if_neg h1, if_pos h2, if_pos (show flRng a = flInf by omega)]
    simp only [Ieee.Datum.order]
    congr 1
    rw [flCmp_int]
    cases flSgn a <;> cases flSgn b <;> simp only [flSg, Bool.false_eq_true, if_true, if_false] <;> (repeat' split) <;> first | rfl | (exfalso; omega)
  · rw [if_neg h1, if_neg h2, if_pos (show flRng a = flInf by omega), if_pos (show flRng b = flInf by omega)]
    simp only [Ieee.Datum.order]
    congr 1
    have e1 : flRng a = flInf := by omega
    have e2 : flRng b = flInf := by omega
    rw [e1, e2]
    cases flSgn a <;> cases flSgn b <;> rfl
theorem flOrder_self (b : Nat) : FloatKind.f64.format.order b b = if flRng b ≤ flInf then some .eq else none := by
  by_cases h : flRng b ≤ flInf
  · rw [if_pos h, flOrder_key b b h h]
    congr 1
    rw [flCmp_int]; simp
  · rw [if_neg h]
    unfold Ieee.Format.order
    rw [flRead_eq b, if_neg (by omega), if_neg (by omega)]; rfl

/-- is it no number; its bits by the document; its place among all -/
theorem nanB_iff (b : Nat) : nanB b = decide (flInf < flRng b) := by
  unfold nanB
  rw [flOrder_self]
  by_cases h : flRng b ≤ flInf
  · rw [if_pos h, decide_eq_false (by omega)]; rfl
  · rw [if_neg h, decide_eq_true (by omega)]; rfl
def flRank (b : Nat) : Nat := if nanB b then 0 else if 2 ^ 63 ≤ b then 2 ^ 64 - 1 - b else b + 2 ^ 63
theorem flOrder_nan (a b : Nat) : FloatKind.f64.format.order a b = if nanB a || nanB b then none else some (compare (flKey a) (flKey b)) := by
  by_cases h1 : flRng a ≤ flInf <;> by_cases h2 : flRng b ≤ flInf
  · rw [flOrder_key a b h1 h2, if_neg (by simp [nanB_iff]; omega)]
  all_goals
    rw [if_pos (by simp [nanB_iff]; omega)]
    unfold Ieee.Format.order
    rw [flRead_eq a, flRead_eq b]
  · rw [if_neg (show ¬ flRng b < flInf by omega), if_neg (show ¬ flRng b = flInf by omega)]
    by_cases h3 : flRng a < flInf
    · rw [if_pos h3]; rfl
    · rw [if_neg h3, if_pos (by omega)]; rfl
  · rw [if_neg (show ¬ flRng a < flInf by omega), if_neg (show ¬ flRng a = flInf by omega)]; rfl
  · rw [if_neg (show ¬ flRng a < flInf by omega), if_neg (show ¬ flRng a = flInf by omega)]; rfl
theorem flSelf_eq (b : Nat) : (FloatKind.f64.format.order b b == some .eq) = !nanB b := by
  rw [flOrder_self]
  by_cases h : flRng b ≤ flInf
  · rw [if_pos h]; simp [nanB_iff]; omega
  · rw [if_neg h]; simp [nanB_iff]; omega
theorem flSelf_ne (b : Nat) : (FloatKind.f64.format.order b b != some .eq) = nanB b := by
  rw [bne, flSelf_eq, Bool.not_not]
theorem flSplit (b : Nat) (h : b < 2 ^ 64) : (b < 2 ^ 63 ∧ flSgn b = false ∧ flRng b = b) ∨ (2 ^ 63 ≤ b ∧ flSgn b = true ∧ flRng b = b - 2 ^ 63) := by
  unfold flSgn flRng
  by_cases h1 : b < 2 ^ 63
  · exact .inl ⟨h1, by rw [Nat.div_eq_of_lt h1]; rfl, Nat.mod_eq_of_lt h1⟩
  · refine .inr ⟨by omega, ?_, by omega⟩
    have : b / 2 ^ 63 = 1 := by omega
    rw [this]; rfl
theorem flDecode_neg (b : Nat) (h : nanB b = false) : (FloatKind.f64.decode b).neg = flSgn b := by
  have h' : flRng b ≤ flInf := by simpa [nanB_iff] using h
  unfold FloatKind.decode
  rw [flRead_eq]
  by_cases h3 : flRng b < flInf
  · rw [if_pos h3]; rfl
  · rw [if_neg h3, if_pos (by omega)]; rfl
/-- what min and max of two numbers are -/
def flMin (a b : Nat) : Nat := if flRank a < flRank b then a else b
def flMax (a b : Nat) : Nat := if flRank a < flRank b then b else a
theorem flRank_key (a b : Nat) (ha : a < 2 ^ 64) (hb : b < 2 ^ 64) (na : nanB a = false) (nb : nanB b = false) :
    (flKey a < flKey b → flRank a < flRank b) ∧ (flKey b < flKey a → flRank b < flRank a) ∧ (flKey a = flKey b → if flSgn a then flRank a ≤ flRank b else flRank b ≤ flRank a) := by
  unfold flRank flKey
  rw [na, nb]
  simp only [Bool.false_eq_true, if_false]
  rcases flSplit a ha with ⟨a1, a2, a3⟩ | ⟨a1, a2, a3⟩ <;> rcases flSplit b hb with ⟨b1, b2, b3⟩ | ⟨b1, b2, b3⟩ <;> rw [a2, b2, a3, b3] <;> simp only [flSg, Bool.false_eq_true, if_true, if_false]
  · rw [if_neg (by omega), if_neg (by omega)]; omega
  · rw [if_neg (by omega), if_pos (by omega)]; omega
  · rw [if_pos (by omega), if_neg (by omega)]; omega
  · rw [if_pos (by omega), if_pos (by omega)]; omega
theorem flRank_inj (a b : Nat) (ha : a < 2 ^ 64) (hb : b < 2 ^ 64) (na : nanB a = false) (nb : nanB b = false) (h : flRank a = flRank b) : a = b := by
  unfold flRank at h
  rw [na, nb] at h
  simp only [Bool.false_eq_true, if_false] at h
  split at h <;> split at h <;> omega
theorem flMin_rank (a b : Nat) (ha : a < 2 ^ 64) (hb : b < 2 ^ 64) (na : nanB a = false) (nb : nanB b = false) :
    (match compare (flKey a) (flKey b) with | .lt => a | .gt => b | .eq => if flSgn a then a else b) = flMin a b := by
  obtain ⟨h1, h2, h3⟩ := flRank_key a b ha hb na nb
  have hi := flRank_inj a b ha hb na nb
  unfold flMin
  rw [flCmp_int]
  by_cases c1 : flKey a < flKey b
  · rw [if_pos c1, if_pos (h1 c1)]
  · rw [if_neg c1]
    by_cases c2 : flKey a = flKey b
    · rw [if_pos c2]
      have h3 := h3 c2
      by_cases c3 : flRank a < flRank b
      · rw [if_pos c3]
        rcases hs : flSgn a with _ | _
        · rw [hs] at h3; simp at h3; omega
        · rfl
      · rw [if_neg c3]
        rcases hs : flSgn a with _ | _
        · rfl
        · rw [hs] at h3; simp at h3; simp only [if_true]; exact hi (by omega)
    · rw [if_neg c2, if_neg (show ¬ flRank a < flRank b by have := h2 (by omega); omega)]
theorem flMax_rank (a b : Nat) (ha : a < 2 ^ 64) (hb : b < 2 ^ 64) (na : nanB a = false) (nb : nanB b = false) :
    (match compare (flKey a) (flKey b) with | .lt => b | .gt => a | .eq => if flSgn a then b else a) = flMax a b := by
  obtain ⟨h1, h2, h3⟩ := flRank_key a b ha hb na nb
  have hi := flRank_inj a b ha hb na nb
  unfold flMax
  rw [flCmp_int]
  by_cases c1 : flKey a < flKey b
  · rw [if_pos c1, if_pos (h1 c1)]
  · rw [if_neg c1]
    by_cases c2 : flKey a = flKey b
    · rw [if_pos c2]
      have h3 := h3 c2
      by_cases c3 : flRank a < flRank b
      · rw [if_pos c3]
        rcases hs : flSgn a with _ | _
        · rw [hs] at h3; simp at h3; omega
        · rfl
      · rw [if_neg c3]
        rcases hs : flSgn a with _ | _
        · rfl
        · rw [hs] at h3; simp at h3; simp only [if_true]; exact (hi (by omega)).symm
    · rw [if_neg c2, if_neg (show ¬ flRank a < flRank b by have := h2 (by omega); omega)]
end Go.Proofs.Ytlnpolepgdoloaa
