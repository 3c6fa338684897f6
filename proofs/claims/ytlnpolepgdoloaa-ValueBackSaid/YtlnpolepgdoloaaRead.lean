/- Package wire's reader. -/
import Derived.Test.YtlnpolepgdoloaaItems
import Derived.Deep.RegionHeld3
namespace Go.Proofs.Ytlnpolepgdoloaa
open Go.RowKit
set_option linter.unusedVariables false

theorem Bs.open {w : World} {v : Value} {l : List UInt8} (h : Bs w v l) : ∃ A c, v = .slice A l.length c ∧ l.length ≤ c ∧ c ≤ maxLen ∧ (A = none → c = 0) ∧
    (l ≠ [] → ∃ ad, A = some ad ∧ ad.block < w.heap.size ∧ ∀ j (hj : j < l.length), w.cell? (ad.add j) = some (.int .u8 (l[j].toNat : Int))) := by
  obtain ⟨A, c, hv, hc, hm, hn, hx⟩ := h
  simp only [List.length_map] at hv hc
  refine ⟨A, c, hv, hc, hm, hn, fun hne => ?_⟩
  obtain ⟨ad, ha, hb, hr⟩ := hx (by simpa using hne)
  exact ⟨ad, ha, hb, fun j hj => hr j _ (by simp [hj, bc])⟩

/-- a word of bytes, the highest first -/
def wordN (l : List UInt8) : Nat := l.foldl (fun a b => a * 256 + b.toNat) 0
theorem wordN_snoc (l : List UInt8) (b : UInt8) : wordN (l ++ [b]) = wordN l * 256 + b.toNat := by simp [wordN]
theorem word_fold (l : List UInt8) : ∀ a : Nat, l.foldl (fun a b => a * 256 + b.toNat) a < (a + 1) * 256 ^ l.length := by
  induction l with
  | nil => intro a; simp
  | cons b l ih =>
    intro a
    have h := ih (a * 256 + b.toNat)
    have hb := b.toNat_lt
    rw [List.foldl_cons, List.length_cons, Nat.pow_succ]
    refine Nat.lt_of_lt_of_le h ?_
    rw [Nat.mul_comm (256 ^ l.length) 256, ← Nat.mul_assoc]
    exact Nat.mul_le_mul_right _ (by omega)
theorem wordN_lt (l : List UInt8) : wordN l < 256 ^ l.length := by simpa [wordN] using word_fold l 0
theorem wordN_lt7 (l : List UInt8) (h : l.length ≤ 7) : wordN l < 72057594037927936 := by
  have := wordN_lt l
  have h2 : 256 ^ l.length ≤ 256 ^ 7 := Nat.pow_le_pow_right (by omega) h
  have h3 : (256 : Nat) ^ 7 = 72057594037927936 := by decide
  omega
theorem wordN_lt4 (l : List UInt8) (h : l.length ≤ 4) : wordN l ≤ 4294967295 := by
  have := wordN_lt l
  have h2 : 256 ^ l.length ≤ 256 ^ 4 := Nat.pow_le_pow_right (by omega) h
  have h3 : (256 : Nat) ^ 4 = 4294967296 := by decide
  omega
theorem wordN_lt8 (l : List UInt8) (h : l.length ≤ 8) : wordN l < 18446744073709551616 := by
  have := wordN_lt l
  have h2 : 256 ^ l.length ≤ 256 ^ 8 := Nat.pow_le_pow_right (by omega) h
  have h3 : (256 : Nat) ^ 8 = 18446744073709551616 := by decide
  omega

theorem fold_be (k : Nat) : ∀ a m : Nat, (be k m).foldl (fun a b => a * 256 + b.toNat) a = a * 256 ^ k + m % 256 ^ k := by
  induction k with
  | zero => intro a m; simp [be, Nat.mod_one]
  | succ k ih =>
    intro a m
    have e : 256 ^ (k + 1) = 256 ^ k * 256 := Nat.pow_succ ..
    have h := Nat.mod_mul (x := m) (a := 256 ^ k) (b := 256)
    rw [be, List.foldl_cons, ih, UInt8.toNat_ofNat', show (2 : Nat) ^ 8 = 256 from rfl, e, h, Nat.add_mul, Nat.mul_assoc, Nat.mul_comm 256 (256 ^ k), Nat.mul_comm (m / 256 ^ k % 256) (256 ^ k)]
    omega
theorem wordN_be (k m : Nat) (h : m < 256 ^ k) : wordN (be k m) = m := by
  unfold wordN
  rw [fold_be, Nat.zero_mul, Nat.zero_add, Nat.mod_eq_of_lt h]

theorem or_word (x b : Nat) (hx : x < 72057594037927936) (hb : b < 256) : bits .or .u64 ((x : Int) * 256) (b : Int) = ((x * 256 + b : Nat) : Int) := by
  rw [bits_join .u64 64 (by decide) (fun n h0 h1 => by rw [IntKind.wrap_u64]; omega) 8 _ _ (by omega) (by omega) (by omega) (by omega) (by omega) (by omega)]
  omega

set_option maxHeartbeats 400000 in
theorem word_any (v : Value) (l : List UInt8) (w : World) (hv : Bs w v l) (hl : l.length ≤ 8) :
    Calls Try.prog 110 #[v] w fun e w' => e = .returned (.int .u64 (wordN l)) ∧ w = w' := by
  obtain ⟨A, c, rfl, hc, -, -, hx⟩ := hv.open
  clear hv
  have HX := Lib.hid hx
  clear hx
  go_enter Try.func110, Try.ntmps110
  go_wp2
  go_loop [3, 8] (fun x i => ∃ k : Nat, k ≤ l.length ∧ i = .int .i64 k ∧ x = .int .u64 (wordN (l.take k))) (fun _ i => l.length - (intOf i).toNat)
  case atStart => exact ⟨0, Nat.zero_le _, rfl, rfl⟩
  case round =>
    obtain ⟨k, hk, rfl, rfl⟩ := hrel
    by_cases hlt : k < l.length
    · obtain ⟨ad, rfl, -, hat⟩ := HX.out (by rintro rfl; simp at hlt)
      have h1 := hat k hlt
      have hlo := wordN_lt7 (l.take k) (by have := List.length_take_le k l; omega)
      have hts : wordN (l.take (k + 1)) = wordN (l.take k) * 256 + l[k].toNat := by rw [List.take_succ_eq_append_getElem hlt, wordN_snoc]
      have HT := Lib.hid hts
      have hb := l[k].toNat_lt
      clear hat hts
      generalize wordN (l.take k) = x at *
      generalize l[k].toNat = b at *
      go_wp2
      go_round
      case rel => exact ⟨k + 1, by omega, by go_num, by rw [HT.out, or_word x b hlo hb]⟩
      case measure => simp [intOf]; omega
    · obtain rfl : k = l.length := by omega
      clear HX
      go_wp2
      go_ret
      exact ⟨by simp, rfl⟩

/-- what a call gives that makes new memory alone: a row that reads as the bytes -/
def Gives (w : World) (l : List UInt8) (e : Ending) (w' : World) : Prop := ∃ v', e = .returned v' ∧ Bs w' v' l ∧ Below w.heap.size w w'

/-- a slice value whose block is none of the first B -/
def New (B : Nat) (v : Value) : Prop := ∀ k, v.ownBlock = some k → B ≤ k
theorem New.nil (B : Nat) : New B (.slice none 0 0) := by intro k h; cases h
theorem New.mono {B C : Nat} {v : Value} (h : New C v) (hb : B ≤ C) : New B v := fun k hk => Nat.le_trans hb (h k hk)
theorem New.of_own {w : World} {base : Nat} {e : TypeId} {n : Nat} {v : Value} {xs : List Value} (h : w.ownsRow base e 1 v n xs) : New base v := fun k hk => (h.lt k hk).1

/-- the row lies in a block of bytes -/
def Ty (w : World) (v : Value) (l : List UInt8) : Prop := l ≠ [] → ∀ k, v.ownBlock = some k → ∃ cs fr, w.heap[k]? = some (.cells cs 5 fr)
theorem Ty.of_own {w : World} {base n : Nat} {v : Value} {xs : List Value} (h : w.ownsRow base 5 1 v n xs) (l : List UInt8) : Ty w v l := by
  intro _ k hk
  rcases h.2 with ⟨rfl, -⟩ | ⟨g, cap, cur, rfl, -, hg, -⟩
  · cases hk
  · simp [Value.ownBlock] at hk
    subst hk
    exact ⟨cur, _, hg⟩
theorem Ty.below {w w' : World} {v : Value} {l : List UInt8} {B : Nat} (h : Ty w v l) (hb : Below B w w') (hB : w.heap.size ≤ B) : Ty w' v l := by
  intro hne k hk
  obtain ⟨cs, fr, hg⟩ := h hne k hk
  have hl := (Array.getElem?_eq_some_iff.1 hg).1
  exact ⟨cs, fr, (hb.block k (by omega)).trans hg⟩
/-- bytes that lie in a block of bytes -/
def Bt (w : World) (v : Value) (l : List UInt8) : Prop := Bs w v l ∧ Ty w v l
theorem Bt.below {w w' : World} {v : Value} {l : List UInt8} {B : Nat} (h : Bt w v l) (hb : Below B w w') (hB : w.heap.size ≤ B) : Bt w' v l := ⟨Rd.below h.1 hb hB, h.2.below hb hB⟩

/-- .. that lies in new memory -/
def GivesN (w : World) (l : List UInt8) (e : Ending) (w' : World) : Prop := ∃ v', e = .returned v' ∧ Bs w' v' l ∧ Below w.heap.size w w' ∧ New w.heap.size v' ∧ Ty w' v' l

set_option maxHeartbeats 400000 in
theorem Clone_new (v : Value) (l : List UInt8) (w : World) (hv : Bs w v l) (hl : l.length ≤ 140737488355320) : Calls Try.prog 64 #[v] w (GivesN w l) := by
  obtain ⟨i0, hi, hz0, hz1, hz2⟩ := info_parts u8info
  obtain ⟨A, c, rfl, hc, hmx, hn, -⟩ := hv.open
  rcases A with _ | ad
  · have hc0 := hn rfl
    subst hc0
    have hl0 : l = [] := List.eq_nil_of_length_eq_zero (by omega)
    subst hl0
    clear hn hv
    have he := fun (w : World) => Lib.run_eql_slice_nil (P := Try.prog) w 42 5 none 0 0 0 0 Try.underlying42
    simp only [List.length_nil]
    go_enter Try.func64, Try.ntmps64
    go_wp2
    go_ret
    exact ⟨_, rfl, Bs.nil w, Below.refl _ _, New.nil _, fun h => absurd rfl h⟩
  · clear hn
    have hv' : Rd w (.slice (some ad) l.length c) (l.map bc) := hv
    have HV := Lib.hid hv'
    clear hv hv'
    have he := fun (w : World) => Lib.run_eql_slice_nil (P := Try.prog) w 42 5 (some ad) l.length c 0 0 Try.underlying42
    go_enter Try.func64, Try.ntmps64
    go_wp2_with (at_builtin; refine wpList_append_rd _ rfl _ _ 42 rfl w.heap.size 5 i0 (.int .u8 0) 1 Try.underlying42 hi hz0 hz1 hz2 rfl _ _ _ rfl (own_empty _ _ _ _ (by simp) (by simp)) _ _ rfl (Rd.below HV.out ((Below.refl w.heap.size w).alloc (Nat.le_refl _) _) (Nat.le_refl _)) (bc_one l) (by simp; unfold maxLen; omega) (by simp; omega) (by simp) ?_; intro v2 w2 hown2 hg2)
    go_ret
    refine ⟨_, rfl, Rd.of_own (by simpa using hown2), ?_, New.of_own hown2, Ty.of_own hown2 _⟩
    exact ((Below.refl w.heap.size w).alloc (Nat.le_refl _) _).grown hg2 (by simp) (by intro k h; injection h with h; simp only at h; omega)

theorem Clone_any (v : Value) (l : List UInt8) (w : World) (hv : Bs w v l) (hl : l.length ≤ 140737488355320) : Calls Try.prog 64 #[v] w (Gives w l) :=
  (Clone_new v l w hv hl).mono fun _ _ ⟨v', h1, h2, h3, _⟩ => ⟨v', h1, h2, h3⟩

/-- a reader: its block holds what is left, and the error -/
def RdR (w : World) (g : Nat) (rest : List UInt8) (err : Int) : Prop := ∃ rv, w.heap[g]? = some (.cells #[rv, .int .i64 err] 77 (0, 0)) ∧ Bt w rv rest

set_option maxHeartbeats 400000 in
theorem New_any (v : Value) (l : List UInt8) (w : World) (hv : Bs w v l) (hl : l.length ≤ 140737488355320) :
    Calls Try.prog 32 #[v] w fun e w' => ∃ g, e = .returned (.pointer (some ⟨g, 0, none⟩)) ∧ w.heap.size ≤ g ∧ RdR w' g l 0 ∧ Below w.heap.size w w' := by
  go_enter Try.func32, Try.ntmps32
  go_wp2_with (go_at_call 64; refine (Clone_new v l _ hv hl).mono ?_; rintro e w1 ⟨v1, rfl, h1, hb1, -, hy1⟩; obtain ⟨A1, c1, rfl, -⟩ := h1.open)
  go_ret
  exact ⟨_, rfl, hb1.size, ⟨_, heap_alloc_new _ _, Bt.below ⟨h1, hy1⟩ ((Below.refl _ _).alloc (Nat.le_refl _) _) (Nat.le_refl _)⟩, hb1.alloc hb1.size _⟩

/-- what a ceiling says of a word -/
def ceilE (most past x : Int) : Int := if most < x then past else 0
theorem ceil_any (most past x : Int) (w : World) : Calls Try.prog 106 #[.agg #[.int .u64 most, .int .i64 past], .int .u64 x] w fun e w' => e = .returned (.int .i64 (ceilE most past x)) ∧ Below w.heap.size w w' := by
  by_cases h : most < x
  · go_enter Try.func106, Try.ntmps106
    go_wp2
    go_ret
    exact ⟨ret_int (by unfold ceilE; rw [if_pos h]), (Below.refl _ _).alloc (Nat.le_refl _) _⟩
  · go_enter Try.func106, Try.ntmps106
    go_wp2
    go_ret
    exact ⟨ret_int (by unfold ceilE; rw [if_neg (by omega)]), (Below.refl _ _).alloc (Nat.le_refl _) _⟩

/-- what room says of a word -/
def roomE (most past left x : Int) : Int := if ceilE most past x = 0 then (if left < 4 + x then 10 else 0) else ceilE most past x
theorem room_any (most past left x : Int) (w : World) (hx0 : 0 ≤ x) (hx : x ≤ 4294967295) : Calls Try.prog 108 #[.agg #[.int .u64 most, .int .i64 past, .int .u64 left], .int .u64 x] w fun e w' => e = .returned (.int .i64 (roomE most past left x)) ∧ Below w.heap.size w w' := by
  go_enter Try.func108, Try.ntmps108
  go_wp2_with (go_at_call 106; refine (ceil_any most past x _).mono ?_; rintro e w1 ⟨rfl, hb1⟩; have hc2 := (hb1.cell (p := ⟨w.heap.size, 2, none⟩) (by simp)).trans ((cell_of_row _ _ 2 _ 111 (0, 0) (heap_alloc_new w _))); have hb2 : Below w.heap.size w w1 := ((Below.refl _ _).alloc (Nat.le_refl _) _).trans (hb1.mono (by simp)); clear hb1)
  · have h1 : (ceilE most past x != 0) = true := by assumption
    go_ret
    exact ⟨ret_int (by unfold roomE; rw [if_neg (by simpa using h1)]), hb2⟩
  · have h1 : (ceilE most past x != 0) = false := by assumption
    have h2 : left < 4 + x := by assumption
    go_ret
    exact ⟨ret_int (by unfold roomE; rw [if_pos (by simpa using h1), if_pos h2]), hb2⟩
  · have h1 : (ceilE most past x != 0) = false := by assumption
    have h2 : 4 + x ≤ left := by assumption
    go_ret
    exact ⟨ret_int (by unfold roomE; rw [if_pos (by simpa using h1), if_neg (by omega)]), hb2⟩

/-- the floats' bits -/
def floatE (x : Nat) : Int := if x ≠ 9221120237041090561 ∧ nanB x = true then 12 else 0
theorem from_bits (x : Int) (w : World) : (callFunc 90 #[.int .u64 x]).run Try.prog w = .ok (.value (.float .f64 x.toNat)) w := by kernel_rfl
theorem floats_any (x : Nat) (w : World) : Calls Try.prog 109 #[.agg #[], .int .u64 x] w fun e w' => e = .returned (.int .i64 (floatE x)) ∧ Below w.heap.size w w' := by
  have hfb := from_bits
  go_enter Try.func109, Try.ntmps109
  go_wp2_with (first
    | fail
    | (go_at_call 86; refine (IsNaN_any _ _).mono ?_; rintro e w' ⟨rfl, rfl⟩))
  · have h1 : (x : Int) = 9221120237041090561 := by assumption
    go_ret
    refine ⟨ret_int ?_, (Below.refl _ _).alloc (Nat.le_refl _) _⟩
    unfold floatE
    rw [if_neg (by omega)]
  · have h1 : ((x : Int) != 9221120237041090561) = true ∧ nanB x = true := by assumption
    go_ret
    refine ⟨ret_int ?_, (Below.refl _ _).alloc (Nat.le_refl _) _⟩
    simp at h1
    unfold floatE
    rw [if_pos ⟨by omega, h1.2⟩]
  · have h1 : ((x : Int) != 9221120237041090561) = false ∨ nanB x = false := by assumption
    go_ret
    refine ⟨ret_int ?_, (Below.refl _ _).alloc (Nat.le_refl _) _⟩
    unfold floatE
    rw [if_neg ?_]
    rintro ⟨h2, h3⟩
    rcases h1 with h1 | h1
    · simp at h1; omega
    · rw [h1] at h3; cases h3
end Go.Proofs.Ytlnpolepgdoloaa
