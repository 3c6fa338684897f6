/- Layer 4: values; are two the same. -/
import Derived.Test.YtlnpolepgdoloaaVNum
import Derived.Test.YtlnpolepgdoloaaTParts
namespace Go.Proofs.Ytlnpolepgdoloaa
open Go.RowKit
set_option linter.unusedVariables false
set_option linter.unusedSimpArgs false
set_option maxRecDepth 20000

/-- a value's parts -/
structure Vl where
  k : Int
  i : Int
  b : Bool
  s : ByteArray
  n : Nat
abbrev agV (v : Vl) : Value := .agg #[.int .i64 v.k, .int .i64 v.i, .bool v.b, .string v.s, .float .f64 v.n]
/-- a call that makes new memory alone -/
def VMk (x : Value) (w : World) (e : Ending) (w' : World) : Prop := e = .returned x ∧ Below w.heap.size w w'

/-- cmp.Compare of texts -/
def cmpS (x y : List UInt8) : Int := if Op.bytesLess x y then -1 else if x == y then 0 else 1
theorem cmpStr_any (x y : ByteArray) (w : World) : Calls Try.prog 49 #[.string x, .string y] w (VGv (.int .i64 (cmpS x.toList y.toList)) w) := by
  rcases h1 : Op.bytesLess x.toList y.toList with _ | _
  · rcases h2 : (x.toList == y.toList) with _ | _
    · have hc : cmpS x.toList y.toList = 1 := by unfold cmpS; rw [h1, h2]; rfl
      rw [hc]; clear hc
      go_enter Try.func49, Try.ntmps49
      go_wp2_with (go_in; go_wp2)
      go_ret
      exact ⟨rfl, rfl⟩
    · have hc : cmpS x.toList y.toList = 0 := by unfold cmpS; rw [h1, h2]; rfl
      rw [hc]; clear hc
      go_enter Try.func49, Try.ntmps49
      go_wp2_with (go_in; go_wp2)
      go_ret
      exact ⟨rfl, rfl⟩
  · have hc : cmpS x.toList y.toList = -1 := by unfold cmpS; rw [h1]; rfl
    rw [hc]; clear hc
    go_enter Try.func49, Try.ntmps49
    go_wp2_with (go_in; go_wp2)
    go_ret
    exact ⟨rfl, rfl⟩

/-- 4.1: the same -/
def sameV (a c : Vl) : Bool := a.k == c.k && a.i == c.i && a.b == c.b && (a.s.toList == c.s.toList) && (numW a.n == numW c.n)

theorem numBits_same (b : Nat) (W : World) : Calls Try.prog 53 #[.float .f64 b] W fun e w' => e = .returned (.int .u64 (numW b)) ∧ w' = W := (numBits_any b W).mono fun e w' h => ⟨h.1, h.2.symm⟩
theorem rBits_same (b : Nat) (W : World) : Calls Try.prog 42 #[.float .f64 b] W fun e w' => e = .returned (.int .u64 (numW b)) ∧ w' = W := (rfBits_any b W).mono fun e w' h => ⟨h.1, h.2.symm⟩
theorem vbox2 (w : World) (o p : Obj) : Below w.heap.size w ((w.alloc o).alloc p) := ((Below.refl _ _).alloc (Nat.le_refl _) _).alloc (by simp) _
theorem nat_beq_int (x y : Nat) : ((x : Int) == (y : Int)) = (x == y) := by
  rw [Bool.eq_iff_iff]; simp; omega

set_option maxHeartbeats 1000000 in
theorem Same_val (a c : Vl) (w : World) : Calls Try.prog 20 #[agV a, agV c] w (VMk (.bool (sameV a c)) w) := by
  rcases h1 : (a.k == c.k) with _ | _
  · have hs : sameV a c = false := by simp only [sameV, h1]; rfl
    rw [hs]; clear hs
    go_enter Try.func20, Try.ntmps20
    go_wp2
    go_quiet (fail)
    go_wp2
    go_ret
    exact ⟨rfl, below_drewN (vbox2 w _ _) _⟩
  · skip
    rcases h2 : (a.i == c.i) with _ | _
    · have hs : sameV a c = false := by simp only [sameV, h1, h2]; rfl
      rw [hs]; clear hs
      go_enter Try.func20, Try.ntmps20
      go_wp2
      go_quiet (fail)
      go_wp2
      go_ret
      exact ⟨rfl, below_drewN (vbox2 w _ _) _⟩
    · skip
      rcases h3 : (a.b == c.b) with _ | _
      · have hs : sameV a c = false := by simp only [sameV, h1, h2, h3]; rfl
        rw [hs]; clear hs
        go_enter Try.func20, Try.ntmps20
        go_wp2
        go_quiet (fail)
        go_wp2
        go_ret
        exact ⟨rfl, below_drewN (vbox2 w _ _) _⟩
      · skip
        rcases h4 : (a.s.toList == c.s.toList) with _ | _
        · have hs : sameV a c = false := by simp only [sameV, h1, h2, h3, h4]; rfl
          rw [hs]; clear hs
          go_enter Try.func20, Try.ntmps20
          go_wp2
          go_quiet (fail)
          go_wp2
          go_ret
          exact ⟨rfl, below_drewN (vbox2 w _ _) _⟩
        · skip
          rcases h5 : (numW a.n == numW c.n) with _ | _
          · have hs : sameV a c = false := by simp only [sameV, h1, h2, h3, h4, h5]; rfl
            have h6 : ((numW a.n : Int) == (numW c.n : Int)) = false := by rw [nat_beq_int]; exact h5
            rw [hs]; clear hs h5
            go_enter Try.func20, Try.ntmps20
            go_wp2
            go_quiet ((go_at_call 53; exact Calls.quiet_of_same (numBits_same _ _)))
            go_wp2
            go_ret
            exact ⟨rfl, below_drewN (vbox2 w _ _) _⟩
          · have hs : sameV a c = true := by simp only [sameV, h1, h2, h3, h4, h5]; rfl
            have h6 : ((numW a.n : Int) == (numW c.n : Int)) = true := by rw [nat_beq_int]; exact h5
            rw [hs]; clear hs h5
            go_enter Try.func20, Try.ntmps20
            go_wp2
            go_quiet ((go_at_call 53; exact Calls.quiet_of_same (numBits_same _ _)))
            go_wp2
            go_ret
            exact ⟨rfl, below_drewN (vbox2 w _ _) _⟩

set_option maxHeartbeats 1000000 in
theorem rSame_val (a c : Vl) (w : World) : Calls Try.prog 21 #[agV a, agV c] w (VMk (.bool (sameV a c)) w) := by
  rcases h1 : (a.k == c.k) with _ | _
  · have hs : sameV a c = false := by simp only [sameV, h1]; rfl
    rw [hs]; clear hs
    go_enter Try.func21, Try.ntmps21
    go_wp2
    go_quiet (fail)
    go_wp2
    go_ret
    exact ⟨rfl, below_drewN (vbox2 w _ _) _⟩
  · skip
    rcases h2 : (a.i == c.i) with _ | _
    · have hs : sameV a c = false := by simp only [sameV, h1, h2]; rfl
      rw [hs]; clear hs
      go_enter Try.func21, Try.ntmps21
      go_wp2
      go_quiet (fail)
      go_wp2
      go_ret
      exact ⟨rfl, below_drewN (vbox2 w _ _) _⟩
    · skip
      rcases h3 : (a.b == c.b) with _ | _
      · have hs : sameV a c = false := by simp only [sameV, h1, h2, h3]; rfl
        rw [hs]; clear hs
        go_enter Try.func21, Try.ntmps21
        go_wp2
        go_quiet (fail)
        go_wp2
        go_ret
        exact ⟨rfl, below_drewN (vbox2 w _ _) _⟩
      · skip
        rcases h4 : (a.s.toList == c.s.toList) with _ | _
        · have hs : sameV a c = false := by simp only [sameV, h1, h2, h3, h4]; rfl
          rw [hs]; clear hs
          go_enter Try.func21, Try.ntmps21
          go_wp2
          go_quiet (fail)
          go_wp2
          go_ret
          exact ⟨rfl, below_drewN (vbox2 w _ _) _⟩
        · skip
          rcases h5 : (numW a.n == numW c.n) with _ | _
          · have hs : sameV a c = false := by simp only [sameV, h1, h2, h3, h4, h5]; rfl
            have h6 : ((numW a.n : Int) == (numW c.n : Int)) = false := by rw [nat_beq_int]; exact h5
            rw [hs]; clear hs h5
            go_enter Try.func21, Try.ntmps21
            go_wp2
            go_quiet ((go_at_call 42; exact Calls.quiet_of_same (rBits_same _ _)))
            go_wp2
            go_ret
            exact ⟨rfl, below_drewN (vbox2 w _ _) _⟩
          · have hs : sameV a c = true := by simp only [sameV, h1, h2, h3, h4, h5]; rfl
            have h6 : ((numW a.n : Int) == (numW c.n : Int)) = true := by rw [nat_beq_int]; exact h5
            rw [hs]; clear hs h5
            go_enter Try.func21, Try.ntmps21
            go_wp2
            go_quiet ((go_at_call 42; exact Calls.quiet_of_same (rBits_same _ _)))
            go_wp2
            go_ret
            exact ⟨rfl, below_drewN (vbox2 w _ _) _⟩

end Go.Proofs.Ytlnpolepgdoloaa
