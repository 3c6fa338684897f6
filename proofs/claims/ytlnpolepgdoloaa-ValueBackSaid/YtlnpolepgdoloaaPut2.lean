/- Contracts of package wire's and the reference's encoders, continued. -/
import Derived.Test.YtlnpolepgdoloaaPut
namespace Go.Proofs.Ytlnpolepgdoloaa
open Go.RowKit
set_option linter.unusedVariables false

/-- what an encoder leaves: new memory alone, that reads as the bytes -/
def Puts (w : World) (l : List UInt8) (e : Ending) (w' : World) : Prop := ∃ v', e = .returned v' ∧ w'.ownsRow w.heap.size 5 1 v' l.length (l.map bc) ∧ Below w.heap.size w w'

theorem Puts.mk_own {w w' : World} {l : List UInt8} {v' : Value} {n : Nat} (h : w'.ownsRow w.heap.size 5 1 v' n (l.map bc)) (hb : Below w.heap.size w w') : Puts w l (.returned v') w' := ⟨v', rfl, by have := h.1; simp at this; subst this; exact h, hb⟩
theorem Puts.bs {w w' : World} {l : List UInt8} {e : Ending} (h : Puts w l e w') : ∃ v', e = .returned v' ∧ Bs w' v' l ∧ Below w.heap.size w w' := by
  obtain ⟨v', rfl, h, hb⟩ := h
  exact ⟨v', rfl, Rd.of_own h, hb⟩

theorem u64_0 (n : Int) : 0 ≤ IntKind.u64.wrap n := by rw [IntKind.wrap_u64]; omega
theorem u64_1 (n : Int) : IntKind.u64.wrap n < 18446744073709551616 := by rw [IntKind.wrap_u64]; omega

/-- an int as a word -/
def w64 (n : Int) : Nat := (IntKind.u64.wrap n).toNat
/-- a float that is no number -/
def nanB (b : Nat) : Bool := FloatKind.f64.format.order b b != some .eq
/-- the bits that are put of a float -/
def numW (b : Nat) : Nat := if nanB b then 9221120237041090561 else b

set_option maxHeartbeats 400000 in
theorem PutInt_any (v : Value) (l : List UInt8) (n : Int) (w : World) (hv : Bs w v l) (hb : l.length ≤ 10000000000000) :
    Calls Try.prog 72 #[v, .int .i64 n] w (Puts w (l ++ be 8 (w64 n))) := by
  go_enter Try.func72, Try.ntmps72
  go_wp2_with (first
    | (go_at_call 99; refine (extend_any v l 8 w hv (by omega) (by omega)).mono ?_; rintro e w1 ⟨v1, rfl, hown1, hb1⟩)
    | (go_at_call 98; refine (appendWord_any v1 _ _ _ 8 w.heap.size w1 hown1 hb1.size (u64_0 n) (u64_1 n) (by omega) (by omega)).mono ?_; rintro e w2 ⟨v2, rfl, hown2, hb2⟩))
  go_ret
  exact Puts.mk_own (by simpa [w64] using hown2) (hb1.trans hb2)

theorem bits_of (b : Nat) (w : World) : (callFunc 80 #[.float .f64 b]).run Try.prog w = .ok (.value (.int .u64 b)) w := by kernel_rfl

theorem IsNaN_any (b : Nat) (w : World)  :
    Calls Try.prog 86 #[.float .f64 b] w fun e w' => e = .returned (.bool (nanB b)) ∧ w = w' := by
  go_enter Try.func86, Try.ntmps86
  go_wp2_with fail
  go_ret
  exact ⟨rfl, rfl⟩

set_option maxHeartbeats 400000 in
theorem PutNum_any (v : Value) (l : List UInt8) (b : Nat) (w : World) (hv : Bs w v l) (hb : l.length ≤ 10000000000000) (hb64 : b < 18446744073709551616) :
    Calls Try.prog 75 #[v, .float .f64 b] w (Puts w (l ++ be 8 (numW b))) := by
  have hfb := bits_of b
  go_enter Try.func75, Try.ntmps75
  go_wp2_with (first
    | fail
    | (go_at_call 86; refine (IsNaN_any b w).mono ?_; rintro e w' ⟨rfl, rfl⟩)
    | (go_at_call 99; refine (extend_any v l 8 w hv (by omega) (by omega)).mono ?_; rintro e w1 ⟨v1, rfl, hown1, hb1⟩)
    | (go_at_call 98; refine (appendWord_any v1 _ _ _ 8 w.heap.size w1 hown1 hb1.size (by omega) (by omega) (by omega) (by omega)).mono ?_; rintro e w2 ⟨v2, rfl, hown2, hb2⟩))
  · have hc : nanB b = true := by assumption
    go_ret
    exact Puts.mk_own (by simpa [numW, hc] using hown2) (hb1.trans hb2)
  · have hc : nanB b = false := by assumption
    go_ret
    exact Puts.mk_own (by simpa [numW, hc] using hown2) (hb1.trans hb2)

set_option maxHeartbeats 400000 in
theorem PutBool_any (v : Value) (l : List UInt8) (x : Bool) (w : World) (hv : Bs w v l) (hb : l.length ≤ 10000000000000) :
    Calls Try.prog 73 #[v, .bool x] w (Puts w (l ++ be 1 x.toNat)) := by
  cases x
  all_goals
    go_enter Try.func73, Try.ntmps73
    go_wp2_with (first
    | (go_at_call 99; refine (extend_any v l 1 w hv (by omega) (by omega)).mono ?_; rintro e w1 ⟨v1, rfl, hown1, hb1⟩)
    | (go_at_call 98; refine (appendWord_any v1 _ _ _ 1 w.heap.size w1 hown1 hb1.size (by omega) (by omega) (by omega) (by omega)).mono ?_; rintro e w2 ⟨v2, rfl, hown2, hb2⟩))
    go_ret
    exact Puts.mk_own (by simpa using hown2) (hb1.trans hb2)

set_option maxHeartbeats 400000 in
theorem PutBytes_any (v y : Value) (l m : List UInt8) (w : World) (hv : Bs w v l) (hy : Bs w y m) (hb : l.length ≤ 10000000000000) (hm : m.length ≤ 4000000000) :
    Calls Try.prog 74 #[v, y] w (Puts w (l ++ be 4 m.length ++ m)) := by
  obtain ⟨i0, hi, hz0, hz1, hz2⟩ := info_parts u8info
  have hy' := hy
  obtain ⟨A, c, rfl, hc, hmx, -, -⟩ := hy
  simp only [List.length_map] at hc hy' ⊢
  have c0 : 0 ≤ capC m.length := by unfold capC; omega
  have c1 : capC m.length < 18446744073709551616 := by unfold capC; omega
  have c2 : (capC m.length).toNat = m.length := by unfold capC; omega
  have C2 := Lib.hid c2; clear c2
  go_enter Try.func74, Try.ntmps74
  go_wp2_with (first
    | (go_at_call 99; refine (extend_any v l (4 + m.length) w hv (by omega) (by omega)).mono ?_; rintro e w1 ⟨v1, rfl, hown1, hb1⟩)
    | (go_at_call 100; refine (countWord_any m.length (by omega) (by omega) _).mono ?_; rintro e w' ⟨rfl, rfl⟩)
    | (go_at_call 98; refine (appendWord_any v1 _ _ _ 4 w.heap.size w1 hown1 hb1.size c0 c1 (by omega) (by omega)).mono ?_; rintro e w2 ⟨v2, rfl, hown2, hb2⟩)
    | (at_builtin; refine wpList_append_rd _ rfl _ _ 42 rfl w.heap.size 5 i0 (.int .u8 0) 1 Try.underlying42 hi hz0 hz1 hz2 rfl _ _ _ rfl hown2 _ _ rfl (Rd.below hy' (hb1.trans hb2) (Nat.le_refl _)) (bc_one m) (by simp; unfold maxLen; omega) (by simp; omega) (by have := (hb1.trans hb2).size; omega) ?_; intro v3 w3 hown3 hg3))
  go_ret
  refine Puts.mk_own (n := l.length + 4 + (m.map bc).length) (by rw [C2.out] at hown3; simpa using hown3) ?_
  exact (hb1.trans hb2).grown hg3 (by have := (hb1.trans hb2).size; omega) (fun k hk => (hown2.lt k hk).1)
end Go.Proofs.Ytlnpolepgdoloaa
