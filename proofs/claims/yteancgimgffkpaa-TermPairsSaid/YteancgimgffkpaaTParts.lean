/- Layer 2: are rows of bytes the same; strings as bytes. -/
import Derived.Test.YteancgimgffkpaaBss
import Derived.Deep.QuietTactic
import Derived.BigQuiet
import Derived.Lib.ConvBytes
namespace Go.Proofs.Yteancgimgffkpaa
open Go.RowKit
set_option linter.unusedVariables false

theorem below_drewN {B : Nat} {a w : World} (h : Below B a w) (n : Nat) : Below B a (w.drewN n) := ⟨h.os, h.tape, h.output, h.size, h.block⟩

theorem list_ne {α : Type} {l m : List α} {k : Nat} (h1 : k < l.length) (h2 : k < m.length) (h : l[k] ≠ m[k]) : l ≠ m := by
  rintro rfl
  exact h rfl

set_option maxHeartbeats 400000 in
theorem Parts_any (v y : Value) (ls ms : List (List UInt8)) (w : World) (hv : Bss w v ls) (hy : Bss w y ms) :
    Calls Try.prog 13 #[v, y] w fun e w' => e = .returned (.bool (ls == ms)) ∧ Below w.heap.size w w' := by
  have HV := Lib.hid hv
  have HY := Lib.hid hy
  obtain ⟨A, c, rfl, hc, hm, -⟩ := hv.open
  obtain ⟨A2, c2, rfl, hc2, hm2, -⟩ := hy.open
  have hll : ls.length ≤ 9223372036854775807 := by have := hm; unfold maxLen at this; omega
  clear hv hy hc hc2 hm hm2
  by_cases hlen : ls.length = ms.length
  · go_enter Try.func13, Try.ntmps13
    rw [← hlen] at HY ⊢
    have HLEN := Lib.hid hlen
    clear hlen
    go_wp2
    go_loopw [5] (fun i wr => ∃ k : Nat, k ≤ ls.length ∧ i = .int .i64 k ∧ ls.take k = ms.take k ∧ Below w.heap.size w wr) (fun i _ => ls.length - (intOf i).toNat)
    case atStart => exact ⟨0, Nat.zero_le _, rfl, rfl, Below.refl _ _⟩
    case round =>
      obtain ⟨k, hk, rfl, hall, hbel⟩ := hrel
      by_cases hlt : k < ls.length
      · have hlt2 : k < ms.length := by rw [← HLEN.out]; exact hlt
        obtain ⟨A', c', e, -, -, hx⟩ := (HV.out.below hbel (Nat.le_refl _)).open
        injection e with e e2 e3
        subst e
        clear e2 e3
        obtain ⟨ad, x, rfl, -, hcell, hbx⟩ := hx k hlt
        obtain ⟨A', c', e, -, -, hx2⟩ := (HY.out.below hbel (Nat.le_refl _)).open
        injection e with e e2 e3
        subst e
        clear e2 e3
        obtain ⟨ad2, x2, rfl, -, hcell2, hbx2⟩ := hx2 k hlt2
        clear hx hx2
        have HALL := Lib.hid hall
        clear hall
        by_cases heq : ls[k] = ms[k]
        · have hbt : ls.take (k + 1) = ms.take (k + 1) := by
            rw [List.take_succ_eq_append_getElem hlt, List.take_succ_eq_append_getElem hlt2, HALL.out, heq]
          have HB := Lib.hid hbt
          have hsame : ∀ n, Calls Try.prog 21 #[x, x2] (wr.drewN n) fun e w' => e = .returned (.bool true) ∧ w' = wr.drewN n :=
            fun n => (Same_any x x2 _ _ (wr.drewN n) (Rd.drewN hbx n) (Rd.drewN hbx2 n)).mono fun e w' h => ⟨by rw [h.1]; exact ret_bool (by simp [heq]), h.2.symm⟩
          clear hbt heq
          go_wp2
          go_quiet (first | (go_at_call 21; exact Calls.quiet_of_same (hsame _)))
          go_wp2
          go_roundw
          case rel => exact ⟨k + 1, by omega, by go_num, HB.out, below_drewN hbel _⟩
          case measure => simp [intOf]; omega
        · have hsame : ∀ n, Calls Try.prog 21 #[x, x2] (wr.drewN n) fun e w' => e = .returned (.bool false) ∧ w' = wr.drewN n :=
            fun n => (Same_any x x2 _ _ (wr.drewN n) (Rd.drewN hbx n) (Rd.drewN hbx2 n)).mono fun e w' h => ⟨by rw [h.1]; exact ret_bool (by simp [heq]), h.2.symm⟩
          have hf : (ls == ms) = false := by simpa using list_ne hlt hlt2 heq
          have HF := Lib.hid hf
          clear hf heq
          go_wp2
          go_quiet (first | (go_at_call 21; exact Calls.quiet_of_same (hsame _)))
          go_wp2
          go_ret
          exact ⟨ret_bool HF.out.symm, below_drewN hbel _⟩
      · obtain rfl : k = ls.length := by omega
        have hf : (ls == ms) = true := by
          rw [List.take_length, HLEN.out, List.take_length] at hall
          simpa using hall
        have HF := Lib.hid hf
        clear hf hall
        go_wp2
        go_ret
        exact ⟨ret_bool HF.out.symm, hbel⟩
  · have hf : (ls == ms) = false := by simp; rintro rfl; exact hlen rfl
    have hb : ((ls.length : Int) != (ms.length : Int)) = true := by simp; omega
    have HF := Lib.hid hf
    clear hf hlen
    go_enter Try.func13, Try.ntmps13
    go_wp2
    go_ret
    exact ⟨ret_bool HF.out.symm, Below.refl _ _⟩

/-! strings as bytes -/
/-- a string of bytes -/
def strB (l : List UInt8) : ByteArray := ⟨l.toArray⟩
theorem strB_inj {l m : List UInt8} : strB l = strB m ↔ l = m := by
  constructor
  · intro h
    have := congrArg (fun b : ByteArray => b.data.toList) h
    simpa [strB] using this
  · rintro rfl; rfl
theorem strB_size (l : List UInt8) : (strB l).size = l.length := by simp [strB, ByteArray.size]
theorem strB_list (l : List UInt8) : (strB l).toList = l :=
   ByteArray.toList_mk l
theorem strB_of (s : ByteArray) : s = strB s.data.toList := by cases s; simp [strB]

theorem bytesWorld_below (w : World) (e : TypeId) (s : ByteArray) : Below w.heap.size w (Lib.bytesWorld w e s) :=
  ⟨rfl, rfl, rfl, by rw [Lib.bytesWorld_size]; omega, fun k hk => Lib.bytesWorld_at_old w e s k hk⟩

/-- a string's bytes in new memory -/
theorem bytesWorld_bs (w : World) (l : List UInt8) (hl : l.length ≤ maxLen) (c : Nat) (hc : c = grownCap w (strB l).size 0 5) :
    Bs (Lib.bytesWorld w 5 (strB l)) (.slice (some ⟨w.heap.size, 0, none⟩) (strB l).size c) l := by
  subst hc
  rw [strB_size]
  refine ⟨some ⟨w.heap.size, 0, none⟩, grownCap w l.length 0 5, by simp, by simpa using grownCap_ge w l.length 0 5, grownCap_le_maxLen w _ _ _ hl, (by intro h; cases h), fun _ => ⟨⟨w.heap.size, 0, none⟩, rfl, by rw [Lib.bytesWorld_size]; exact Nat.lt_succ_self _, fun j u hj => ?_⟩⟩
  have hjl : j < l.length := by simpa using (List.getElem?_eq_some_iff.1 hj).1
  rw [Addr.add_lit, Nat.zero_add, Lib.bytesWorld_cell w _ _ j (by rw [strB_size]; exact hjl)]
  simp [hjl] at hj
  rw [← hj]
  simp [strB, bc, hjl]
end Go.Proofs.Yteancgimgffkpaa
