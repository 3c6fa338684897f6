/- Contracts of package wire's and the reference's encoders. -/
import Derived.Test.YtlnpolepgdoloaaRows
import Derived.Test.YtlnpolepgdoloaaWords
namespace Go.Proofs.Ytlnpolepgdoloaa
open Go.RowKit
set_option linter.unusedVariables false

theorem u8info : (Try.prog.info? 5).map (fun i => (i.zero, i.size, i.bytes)) = some (some (.int .u8 0), 1, 1) := by kernel_rfl

theorem ret_int {k : IntKind} {a b : Int} (h : a = b) : Ending.returned (.int k a) = .returned (.int k b) := by rw [h]
theorem ret_bool {a b : Bool} (h : a = b) : Ending.returned (.bool a) = .returned (.bool b) := by rw [h]

/-- the highest first: 'size' bytes of n -/
def be : Nat → Nat → List UInt8
  | 0, _ => []
  | k + 1, n => UInt8.ofNat (n / 256 ^ k) :: be k n

theorem be_length (k n : Nat) : (be k n).length = k := by induction k with | zero => rfl | succ k ih => simp [be, ih]

def capC (n : Int) : Int := min (max n 0) 4294967295

set_option maxHeartbeats 400000 in
theorem countWord_any (n : Int) (h0 : -9223372036854775808 ≤ n) (h1 : n ≤ 9223372036854775807) (w : World) :
    Calls Try.prog 100 #[.int .i64 n] w fun e w' => e = .returned (.int .u64 (capC n)) ∧ w = w' := by
  go_enter Try.func100, Try.ntmps100
  go_wp2
  all_goals (go_ret; exact ⟨ret_int (by unfold capC; omega), rfl⟩)

/-- room behind a copy -/
theorem extend_any (v : Value) (l : List UInt8) (m : Int) (w : World) (hv : Bs w v l) (hm : 0 ≤ m) (hb : l.length + m ≤ 140737488355328) :
    Calls Try.prog 99 #[v, .int .i64 m] w fun e w' => ∃ v', e = .returned v' ∧ w'.ownsRow w.heap.size 5 1 v' l.length (l.map bc) ∧ Below w.heap.size w w' := by
  obtain ⟨i0, hi, hz0, hz1, hz2⟩ := info_parts u8info
  obtain ⟨m, rfl⟩ := Int.eq_ofNat_of_zero_le hm
  have hv' := hv
  obtain ⟨A, c, rfl, hc, hmx, -, -⟩ := hv
  simp only [List.length_map] at hc hv' ⊢
  go_enter Try.func99, Try.ntmps99
  go_wp2_with (first
    | (at_make; refine wpList_make_own _ rfl _ _ 42 rfl w.heap.size 5 i0 (.int .u8 0) 1 Try.underlying42 hi hz0 hz1 .i64 .i64 _ (l.length + m) rfl rfl (by simp) (by rw [hz2]; omega) (by unfold maxLen; omega) (Nat.le_refl _) ?_; intro w1 hown1 hg1)
    | (at_builtin; refine wpList_append_rd _ rfl _ _ 42 rfl w.heap.size 5 i0 (.int .u8 0) 1 Try.underlying42 hi hz0 hz1 hz2 rfl _ _ _ rfl hown1 _ _ rfl (Rd.below hv' ((Below.refl w.heap.size w).grown hg1 (Nat.le_refl _) (by intro k h; cases h)) (Nat.le_refl _)) (bc_one l) (by simp; unfold maxLen; omega) (by simp; omega) (by have := hg1.size; omega) ?_; intro v2 w2 hown2 hg2))
  go_ret
  refine ⟨_, rfl, by simpa using hown2, ?_⟩
  exact ((Below.refl w.heap.size w).grown hg1 (Nat.le_refl _) (by intro k h; cases h)).grown hg2 (by have := hg1.size; omega) (by intro k h; injection h with h; simp only at h; omega)

theorem Rd.one (w : World) (x : Value) (t : TypeId) : Rd (w.alloc (.cells #[x] t)) (.slice (some ⟨w.heap.size, 0, none⟩) 1 1) [x] :=
  ⟨_, 1, rfl, Nat.le_refl _, by unfold maxLen; omega, (by intro h; cases h), fun _ => ⟨_, rfl, by simp, fun j u hu => cell_one_new w x t j u hu⟩⟩

theorem bc_shift (x j : Nat) : Value.int .u8 ((x : Int) / 2 ^ (8 * j) % 256) = bc (UInt8.ofNat (x / 256 ^ j)) := by
  unfold bc
  congr 1
  rw [UInt8.toNat_ofNat']
  have : (2 : Int) ^ (8 * j) = ((256 ^ j : Nat) : Int) := by rw [Int.pow_mul]; simp
  rw [this]
  omega

/-- the word's bytes behind an owned row -/
theorem appendWord_any (v : Value) (n0 : Nat) (xs : List Value) (x0 : Int) (k : Nat) (B : Nat) (w : World) (hv : w.ownsRow B 5 1 v n0 xs) (hB : B ≤ w.heap.size) (hx0 : 0 ≤ x0) (hx : x0 < 18446744073709551616) (hk : k ≤ 8) (hn : n0 ≤ 140737488355320) :
    Calls Try.prog 98 #[v, .int .u64 x0, .int .i64 k] w fun e w' => ∃ v', e = .returned v' ∧ w'.ownsRow B 5 1 v' (n0 + k) (xs ++ (be k x0.toNat).map bc) ∧ Below B w w' := by
  obtain ⟨x, rfl⟩ := Int.eq_ofNat_of_zero_le hx0
  rw [Int.toNat_natCast]
  obtain ⟨i0, hi, hz0, hz1, hz2⟩ := info_parts u8info
  go_enter Try.func98, Try.ntmps98
  go_wp2
  go_loopw [0, 7] (fun v i wr => ∃ (j : Nat) (ys : List UInt8), j ≤ k ∧ ys ++ be j x = be k x ∧ i = .int .i64 ((j : Int) - 1) ∧ wr.ownsRow B 5 1 v (n0 + ys.length) (xs ++ ys.map bc) ∧ Below B w wr)
    (fun _ i _ => (intOf i + 1).toNat)
  case atStart => exact ⟨k, [], Nat.le_refl _, rfl, rfl, by simpa using hv, Below.refl _ _⟩
  case round =>
    obtain ⟨j, ys, hj, hys, rfl, hown, hbel⟩ := hrel
    have hlen : ys.length + j = k := by have := congrArg List.length hys; simpa [be_length] using this
    by_cases hj0 : 0 < j
    · obtain ⟨j, rfl⟩ : ∃ j', j = j' + 1 := ⟨j - 1, by omega⟩
      have HY := Lib.hid hys
      have HL : ys.length ≤ 7 := by omega
      clear hys hlen
      go_wp2_with (at_builtin; refine wpList_append_rd _ rfl _ _ 42 rfl B 5 i0 (.int .u8 0) 1 Try.underlying42 hi hz0 hz1 hz2 rfl _ _ _ rfl (hown.alloc _) _ _ rfl (Rd.one _ _ _) (by intro u hu; simp at hu; subst hu; rfl) (by simp; unfold maxLen; omega) (by simp; omega) (by have := hbel.size; simp; omega) ?_; intro v2 w2 hown2 hg2)
      have hB2 := ((hbel.alloc (by have := hbel.size; omega) _).grown hg2 (by have := hbel.size; simp; omega) (fun g hg => ((hown.alloc (.cells #[Value.int .u8 (↑x / 2 ^ (8 * j) % 256)] 5)).lt g hg).1))
      rw [bc_shift] at hown2
      clear hg2 hown
      go_wp2
      go_roundw
      case rel => exact ⟨j, ys ++ [UInt8.ofNat (x / 256 ^ j)], by omega, by rw [← HY.out]; simp [be], by go_num, by simpa [Nat.add_assoc] using hown2, hB2⟩
      case measure => simp [intOf]
    · obtain rfl : j = 0 := by omega
      have e : ys = be k x := by simpa [be] using hys
      have HL := Lib.hid hlen
      have HY := Lib.hid e
      clear hys hlen e
      go_wp2
      go_ret
      exact ⟨_, rfl, by rw [← HY.out, ← HL.out]; exact hown, hbel⟩

/-- the reference's: a copy, and so many bytes of a number -/
theorem bits_any (v : Value) (l : List UInt8) (x0 : Int) (k : Nat) (w : World) (hv : Bs w v l) (hx0 : 0 ≤ x0) (hx : x0 < 18446744073709551616) (hk : k ≤ 8) (hn : l.length ≤ 140737488355320) :
    Calls Try.prog 101 #[v, .int .u64 x0, .int .i64 k] w fun e w' => ∃ v', e = .returned v' ∧ w'.ownsRow w.heap.size 5 1 v' (l.length + k) ((l ++ be k x0.toNat).map bc) ∧ Below w.heap.size w w' := by
  obtain ⟨x, rfl⟩ := Int.eq_ofNat_of_zero_le hx0
  rw [Int.toNat_natCast]
  obtain ⟨i0, hi, hz0, hz1, hz2⟩ := info_parts u8info
  have hv' := hv
  obtain ⟨A, c, rfl, hc, hmx, -, -⟩ := hv
  simp only [List.length_map] at hc hv' ⊢
  go_enter Try.func101, Try.ntmps101
  have hown0 : (w.alloc (.cells #[] 5)).ownsRow w.heap.size 5 1 (.slice (some ⟨w.heap.size, 0, none⟩) 0 0) 0 [] := World.ownsRow_made w #[] 0 (Nat.le_refl _) (Nat.zero_le _) rfl
  have hrd0 := Rd.below hv' ((Below.refl w.heap.size w).alloc (Nat.le_refl _) (.cells #[] 5)) (Nat.le_refl _)
  go_wp2_with (at_builtin; refine wpList_append_rd _ rfl _ _ 42 rfl w.heap.size 5 i0 (.int .u8 0) 1 Try.underlying42 hi hz0 hz1 hz2 rfl _ _ _ rfl hown0 _ _ rfl hrd0 (bc_one l) (by simp; omega) (by simp; omega) (by simp) ?_; intro v2 w2 hown2 hg2)
  have hb2 := ((Below.refl w.heap.size w).alloc (Nat.le_refl _) (.cells #[] 5)).grown hg2 (by simp) (by intro k h; injection h with h; simp only at h; omega)
  simp only [List.nil_append, List.length_map, Nat.zero_add] at hown2
  clear hg2 hrd0 hown0 hv'
  go_loopw [7, 8] (fun v i wr => ∃ (j : Nat) (ys : List UInt8), j ≤ k ∧ ys ++ be j x = be k x ∧ i = .int .i64 ((j : Int) - 1) ∧ wr.ownsRow w.heap.size 5 1 v (l.length + ys.length) ((l ++ ys).map bc) ∧ Below w.heap.size w wr)
    (fun _ i _ => (intOf i + 1).toNat)
  case atStart => exact ⟨k, [], Nat.le_refl _, rfl, rfl, by simpa using hown2, hb2⟩
  case round =>
    obtain ⟨j, ys, hj, hys, rfl, hown, hbel⟩ := hrel
    have hlen : ys.length + j = k := by have := congrArg List.length hys; simpa [be_length] using this
    by_cases hj0 : 0 < j
    · obtain ⟨j, rfl⟩ : ∃ j', j = j' + 1 := ⟨j - 1, by omega⟩
      have HY := Lib.hid hys
      have HL : ys.length ≤ 7 := by omega
      clear hys hlen
      go_wp2_with (at_builtin; refine wpList_append_rd _ rfl _ _ 42 rfl w.heap.size 5 i0 (.int .u8 0) 1 Try.underlying42 hi hz0 hz1 hz2 rfl _ _ _ rfl (hown.alloc _) _ _ rfl (Rd.one _ _ _) (by intro u hu; simp at hu; subst hu; rfl) (by simp; unfold maxLen; omega) (by simp; omega) (by have := hbel.size; simp; omega) ?_; intro v2 w2 hown2 hg2)
      have hB2 := ((hbel.alloc (by have := hbel.size; omega) _).grown hg2 (by have := hbel.size; simp; omega) (fun g hg => ((hown.alloc (.cells #[Value.int .u8 (↑x / 2 ^ (8 * j) % 256)] 5)).lt g hg).1))
      rw [bc_shift] at hown2
      clear hg2 hown
      go_wp2
      go_roundw
      case rel => exact ⟨j, ys ++ [UInt8.ofNat (x / 256 ^ j)], by omega, by rw [← HY.out]; simp [be], by go_num, by simpa [Nat.add_assoc] using hown2, hB2⟩
      case measure => simp [intOf]
    · obtain rfl : j = 0 := by omega
      have e : ys = be k x := by simpa [be] using hys
      have HL := Lib.hid hlen
      have HY := Lib.hid e
      clear hys hlen e
      go_wp2
      go_ret
      exact ⟨_, rfl, by rw [← HY.out, ← HL.out]; exact hown, hbel⟩
end Go.Proofs.Ytlnpolepgdoloaa
