/- WireNone: a reader that is none has no bytes. -/
import Derived.Test.YtdhpklbdajcfoaaLaws
import Derived.Deep.RegionHeld3
import Derived.Deep.QuietTactic
import Derived.BigQuiet
namespace Go.Proofs.Ytdhpklbdajcfoaa
open Go.RowKit
set_option linter.unusedVariables false

/-- the reference's reader without bytes -/
def RfR (w : World) (h : Nat) (e : Int) : Prop := w.heap[h]? = some (.cells #[.slice none 0 0, .int .i64 0, .int .i64 e] 49 (0, 0))
theorem RfR.lt {w : World} {h : Nat} {e : Int} (hr : RfR w h e) : h < w.heap.size := (Array.getElem?_eq_some_iff.1 hr).1
theorem RfR.below {w w' : World} {h : Nat} {e : Int} (hr : RfR w h e) (hb : Below w.heap.size w w') : RfR w' h e := (hb.block h hr.lt).trans hr
theorem RfR.open {w : World} {h : Nat} {e : Int} (hr : RfR w h e) : w.cell? ⟨h, 0, none⟩ = some (.slice none 0 0) ∧ w.cell? ⟨h, 1, none⟩ = some (.int .i64 0) ∧ w.cell? ⟨h, 2, none⟩ = some (.int .i64 e) ∧ (∀ j, w.frozen? ⟨h, j, none⟩ = false) :=
  ⟨(cell_of_row w h 0 _ _ (0, 0) hr).trans rfl, (cell_of_row w h 1 _ _ (0, 0) hr).trans rfl, (cell_of_row w h 2 _ _ (0, 0) hr).trans rfl, fun j => by unfold RfR at hr; simp [World.frozen?, hr]⟩
theorem RfR.set {w : World} {h : Nat} {e : Int} (hr : RfR w h e) (e' : Int) : RfR (w.setCell ⟨h, 2, none⟩ (.int .i64 e')) h e' := by
  unfold RfR at hr ⊢
  simp [World.setCell, Array.getElem?_modify, hr]
theorem below_drewN' {B : Nat} {a w : World} (h : Below B a w) (n : Nat) : Below B a (w.drewN n) := ⟨h.os, h.tape, h.output, h.size, h.block⟩
theorem RfR.only {w w' : World} {h g : Nat} {e : Int} (hr : RfR w h e) (ho : Only g w w') (hne : h ≠ g) : RfR w' h e := (ho.block h hr.lt (by intro e; injection e with e; exact hne e)).trans hr

theorem number_short (h many : Nat) (e : Int) (w : World) (hr : RfR w h e) (hm : 0 < many) (hm8 : many ≤ 8) :
    Calls Try.prog 53 #[.pointer (some ⟨h, 0, none⟩), .int .i64 many] w fun e w' => e = .returned (.tuple #[.int .u64 0, .bool false]) ∧ Below w.heap.size w w' := by
  obtain ⟨hc0, hc1, hc2, hf⟩ := hr.open
  clear hr hc2
  go_enter Try.func53, Try.ntmps53
  go_wp2
  go_quiet (fail)
  go_wp2
  go_ret2
  exact ⟨rfl, below_drewN' (Below.refl _ _) _⟩

/-- what a call for a thing leaves as the error -/
def lateE (e : Int) : Int := if e = 0 then 10 else e

/-- a method of the reference's reader without bytes -/
def Late (h : Nat) (e : Int) (v : Value) (w : World) (en : Ending) (w' : World) : Prop := en = .returned v ∧ RfR w' h (lateE e) ∧ Only h w w'

set_option maxHeartbeats 400000 in
theorem rrInt_any (h : Nat) (e : Int) (w : World) (hr : RfR w h e) : Calls Try.prog 41 #[.pointer (some ⟨h, 0, none⟩)] w (Late h e (.int .i64 0) w) := by
  obtain ⟨hc0, hc1, hc2, hf⟩ := hr.open
  by_cases he : e = 0
  · subst he
    go_enter Try.func41, Try.ntmps41
    go_wp2_with (go_at_call 53; refine (number_short h 8 0 _ hr (by omega) (by omega)).mono ?_; rintro e w1 ⟨rfl, hb1⟩; have hr1 := hr.below hb1; obtain ⟨hd0, hd1, hd2, hg⟩ := hr1.open)
    go_ret
    exact ⟨rfl, hr1.set 10, ((Only.refl h w).below hb1).set _ _⟩
  · have h1 : (e != 0) = true := by simpa using he
    have hl : lateE e = e := by unfold lateE; rw [if_neg he]
    have HL := Lib.hid hl
    clear hl he
    go_enter Try.func41, Try.ntmps41
    go_wp2
    go_ret
    exact ⟨rfl, by rw [HL.out]; exact hr, Only.refl _ _⟩
set_option maxHeartbeats 400000 in
theorem rrBool_any (h : Nat) (e : Int) (w : World) (hr : RfR w h e) : Calls Try.prog 42 #[.pointer (some ⟨h, 0, none⟩)] w (Late h e (.bool false) w) := by
  obtain ⟨hc0, hc1, hc2, hf⟩ := hr.open
  by_cases he : e = 0
  · subst he
    go_enter Try.func42, Try.ntmps42
    go_wp2_with (go_at_call 53; refine (number_short h 1 0 _ hr (by omega) (by omega)).mono ?_; rintro e w1 ⟨rfl, hb1⟩; have hr1 := hr.below hb1; obtain ⟨hd0, hd1, hd2, hg⟩ := hr1.open)
    go_ret
    exact ⟨rfl, hr1.set 10, ((Only.refl h w).below hb1).set _ _⟩
  · have h1 : (e != 0) = true := by simpa using he
    have hl : lateE e = e := by unfold lateE; rw [if_neg he]
    have HL := Lib.hid hl
    clear hl he
    go_enter Try.func42, Try.ntmps42
    go_wp2
    go_ret
    exact ⟨rfl, by rw [HL.out]; exact hr, Only.refl _ _⟩
set_option maxHeartbeats 400000 in
theorem rrCount_any (h : Nat) (e : Int) (most : Int) (h0 : -9223372036854775808 ≤ most) (h9 : most ≤ 9223372036854775807) (w : World) (hr : RfR w h e) : Calls Try.prog 43 #[.pointer (some ⟨h, 0, none⟩), .int .i64 most] w (Late h e (.int .i64 0) w) := by
  obtain ⟨hc0, hc1, hc2, hf⟩ := hr.open
  by_cases he : e = 0
  · subst he
    go_enter Try.func43, Try.ntmps43
    go_wp2_with (go_at_call 53; refine (number_short h 4 0 _ hr (by omega) (by omega)).mono ?_; rintro e w1 ⟨rfl, hb1⟩; have hr1 := hr.below hb1; obtain ⟨hd0, hd1, hd2, hg⟩ := hr1.open)
    go_ret
    exact ⟨rfl, hr1.set 10, ((Only.refl h w).below hb1).set _ _⟩
  · have h1 : (e != 0) = true := by simpa using he
    have hl : lateE e = e := by unfold lateE; rw [if_neg he]
    have HL := Lib.hid hl
    clear hl he
    go_enter Try.func43, Try.ntmps43
    go_wp2
    go_ret
    exact ⟨rfl, by rw [HL.out]; exact hr, Only.refl _ _⟩
set_option maxHeartbeats 400000 in
theorem rrNum_any (h : Nat) (e : Int) (w : World) (hr : RfR w h e) : Calls Try.prog 45 #[.pointer (some ⟨h, 0, none⟩)] w (Late h e (.float .f64 0) w) := by
  obtain ⟨hc0, hc1, hc2, hf⟩ := hr.open
  by_cases he : e = 0
  · subst he
    go_enter Try.func45, Try.ntmps45
    go_wp2_with (go_at_call 53; refine (number_short h 8 0 _ hr (by omega) (by omega)).mono ?_; rintro e w1 ⟨rfl, hb1⟩; have hr1 := hr.below hb1; obtain ⟨hd0, hd1, hd2, hg⟩ := hr1.open)
    go_ret
    exact ⟨rfl, hr1.set 10, ((Only.refl h w).below hb1).set _ _⟩
  · have h1 : (e != 0) = true := by simpa using he
    have hl : lateE e = e := by unfold lateE; rw [if_neg he]
    have HL := Lib.hid hl
    clear hl he
    go_enter Try.func45, Try.ntmps45
    go_wp2
    go_ret
    exact ⟨rfl, by rw [HL.out]; exact hr, Only.refl _ _⟩

theorem lateE_ne (e : Int) : lateE e ≠ 0 := by unfold lateE; split <;> omega

set_option maxHeartbeats 400000 in
theorem rrBytes_any (h : Nat) (e : Int) (most : Int) (h0 : -9223372036854775808 ≤ most) (h9 : most ≤ 9223372036854775807) (w : World) (hr : RfR w h e) : Calls Try.prog 44 #[.pointer (some ⟨h, 0, none⟩), .int .i64 most] w fun en w' => ∃ w1 n, w' = w1.drewN n ∧ Late h e (.slice none 0 0) w en w1 := by
  obtain ⟨hc0, hc1, hc2, hf⟩ := hr.open
  have hn := lateE_ne e
  have hb : (lateE e == 0) = false := by simpa using hn
  have hb2 : (lateE e != 0) = true := by simpa using hn
  clear hn
  go_enter Try.func44, Try.ntmps44
  go_wp2_with (go_at_call 43; refine (rrCount_any h e most h0 h9 _ hr).mono ?_; rintro e w1 ⟨rfl, hr1, ho⟩; obtain ⟨hd0, hd1, hd2, hg⟩ := hr1.open)
  go_quiet (fail)
  go_wp2
  go_ret
  exact ⟨_, _, rfl, rfl, hr1, ho⟩

theorem rrEnd_any (h : Nat) (e : Int) (w : World) (hr : RfR w h e) : Calls Try.prog 46 #[.pointer (some ⟨h, 0, none⟩)] w fun en w' => ∃ n, w' = w.drewN n ∧ en = .returned (.tuple #[]) := by
  obtain ⟨hc0, hc1, hc2, hf⟩ := hr.open
  by_cases he : e = 0
  · subst he
    have hz : ((0 : Int) == 0) = true := rfl
    go_enter Try.func46, Try.ntmps46
    refine wp_seq ?_
    go_quiet (fail)
    go_wp2
    go_end0
    exact ⟨_, rfl, rfl⟩
  · have hz : (e == 0) = false := by simpa using he
    clear he
    go_enter Try.func46, Try.ntmps46
    refine wp_seq ?_
    go_quiet (fail)
    go_wp2
    go_end0
    exact ⟨_, rfl, rfl⟩

theorem wrap64_0 : wrap64 ((0 : Nat) : Int) = 0 := by unfold wrap64; omega
theorem stepF_nil (k : Nat) (al : Int → Int) (e : Int) (hk : 0 < k) : stepF k al [] e = (0, [], lateE e) := by
  unfold stepF lateE
  by_cases he : e = 0
  · rw [if_neg (by omega), if_pos (by simpa using hk), if_pos he]
  · rw [if_pos he, if_neg he]
theorem bytesF_nil (most e : Int) : bytesF most [] e = ([], [], lateE e) := by
  unfold bytesF
  rw [stepF_nil 4 _ e (by omega), if_pos rfl]
theorem RdR.only0 {w w' : World} {g h : Nat} {err : Int} (hr : RdR w g [] err) (ho : Only h w w') (hne : g ≠ h) : RdR w' g [] err := by
  have hl := hr.lt
  obtain ⟨rv, hh, A, c, rfl, h1, h2, h3, -⟩ := hr
  exact ⟨_, (ho.block g hl (by intro e; injection e with e; exact hne e)).trans hh, A, c, rfl, h1, h2, h3, fun h => absurd rfl h⟩

def boxed (w : World) (x : Itm) (bx : Value) : World := w.alloc (.cells #[.int .i64 x.kind, .int .i64 x.n, bx, .float .f64 x.x] 32)

/-- the two readers without bytes are at one -/
structure Two (g h : Nat) (e : Int) (w : World) : Prop where
  wire : RdR w g [] e
  ref : RfR w h e
  ne : g ≠ h

theorem Two.drewN {g h : Nat} {e : Int} {w : World} (t : Two g h e w) (n : Nat) : Two g h e (w.drewN n) := ⟨t.wire, t.ref, t.ne⟩
theorem Bs.imp0 {w w' : World} {v : Value} (h : Bs w v []) : Bs w' v [] := by
  obtain ⟨A, c, rfl, h1, h2, h3, -⟩ := h
  exact ⟨A, c, rfl, h1, h2, h3, fun h => absurd rfl h⟩

def AskDone (g h B : Nat) (w : World) (en : Ending) (w' : World) : Prop := en = .returned (.bool true) ∧ (∃ e, Two g h e w') ∧ Below B w w'

theorem Two.below {g h : Nat} {e : Int} {w w' : World} (t : Two g h e w) (hb : Below w.heap.size w w') : Two g h e w' := ⟨t.wire.below hb, t.ref.below hb, t.ne⟩
theorem Two.box {g h : Nat} {e : Int} {w : World} (t : Two g h e w) (o : Obj) : Two g h e (w.alloc o) := t.below ((Below.refl _ _).alloc (Nat.le_refl _) o)
/-- behind a method of each -/
theorem Two.after {g h B : Nat} {e e' : Int} {w w1 w2 : World} (t : Two g h e w) (hq : RdR w1 g [] e') (ho : Only g w w1) (hq2 : RfR w2 h e') (ho2 : Only h w1 w2) (hg : B ≤ g) (hh : B ≤ h) (hB : B ≤ w.heap.size) : Two g h e' w2 ∧ Below B w w2 := by
  refine ⟨⟨hq.only0 ho2 t.ne, hq2, t.ne⟩, (ho.to_below hB hg).trans (ho2.to_below ?_ hh)⟩
  have := ho.size
  omega

set_option maxRecDepth 100000 in
set_option maxHeartbeats 1000000 in
theorem ask_zero (g h B : Nat) (e : Int) (x : Itm) (bx : Value) (w : World) (hx : x.ok) (hbx : Bs w bx x.b) (t : Two g h e w) (hg : B ≤ g) (hh : B ≤ h) (hB : B ≤ w.heap.size) :
    Calls Try.prog 22 #[.pointer (some ⟨g, 0, none⟩), .pointer (some ⟨h, 0, none⟩), x.val bx] w (AskDone g h B w) := by
  obtain ⟨-, -, a3, a4, a5⟩ := hx
  have hox : bx.oneCell' = true := by obtain ⟨A, c, rfl, -⟩ := hbx.open; rfl
  unfold Itm.val
  have t1 := t.box (.cells #[.int .i64 x.kind, .int .i64 x.n, bx, .float .f64 x.x] 32)
  have hb1 := (Below.refl B w).alloc hB (.cells #[.int .i64 x.kind, .int .i64 x.n, bx, .float .f64 x.x] 32)
  have hz : ((0 : Int) == 0) = true := rfl
  by_cases k0 : x.kind = 0
  · rw [k0] at t1 hb1 ⊢
    clear k0
    have HS := Lib.hid (stepF_nil 8 alInt e (by omega))
    go_enter Try.func22, Try.ntmps22
    go_wp2_with (first
      | (go_at_call 11; refine (Int_any g [] e _ t1.wire).mono ?_; rintro en w1 ⟨rfl, hq, ho⟩; rw [HS.out] at hq; rw [HS.out, wrap64_0])
      | (go_at_call 41; refine (rrInt_any h e _ (t1.ref.only ho (Ne.symm t.ne))).mono ?_; rintro en w2 ⟨rfl, hq2, ho2⟩; have tt := t1.after hq ho hq2 ho2 hg hh (Nat.le_trans hB (by simp))))
    go_ret
    exact ⟨rfl, ⟨_, tt.1⟩, hb1.trans tt.2⟩
  by_cases k1 : x.kind = 1
  · rw [k1] at t1 hb1 ⊢
    clear k1
    have HS := Lib.hid (stepF_nil 1 alBool e (by omega))
    go_enter Try.func22, Try.ntmps22
    go_wp2_with (first
      | (go_at_call 12; refine (Bool_any g [] e _ t1.wire).mono ?_; rintro en w1 ⟨rfl, hq, ho⟩; rw [HS.out] at hq; rw [HS.out, show decide ((0 : Nat) = 1) = false from rfl])
      | (go_at_call 42; refine (rrBool_any h e _ (t1.ref.only ho (Ne.symm t.ne))).mono ?_; rintro en w2 ⟨rfl, hq2, ho2⟩; have tt := t1.after hq ho hq2 ho2 hg hh (Nat.le_trans hB (by simp))))
    go_ret
    exact ⟨rfl, ⟨_, tt.1⟩, hb1.trans tt.2⟩
  by_cases k2 : x.kind = 2
  · rw [k2] at t1 hb1 ⊢
    clear k2
    have HS := Lib.hid (stepF_nil 4 (alCount x.n) e (by omega))
    go_enter Try.func22, Try.ntmps22
    go_wp2_with (first
      | (go_at_call 13; refine (Count_any g [] e x.n a3 a4 _ t1.wire).mono ?_; rintro en w1 ⟨rfl, hq, ho⟩; rw [HS.out] at hq; rw [HS.out, wrap64_0])
      | (go_at_call 43; refine (rrCount_any h e x.n a3 a4 _ (t1.ref.only ho (Ne.symm t.ne))).mono ?_; rintro en w2 ⟨rfl, hq2, ho2⟩; have tt := t1.after hq ho hq2 ho2 hg hh (Nat.le_trans hB (by simp))))
    go_ret
    exact ⟨rfl, ⟨_, tt.1⟩, hb1.trans tt.2⟩
  by_cases k3 : x.kind = 3
  · rw [k3] at t1 hb1 ⊢
    clear k3
    have HS := Lib.hid (bytesF_nil x.n e)
    go_enter Try.func22, Try.ntmps22
    go_wp2_with (first
      | (go_at_call 15; refine (Bytes_any g [] e x.n a3 a4 _ t1.wire (by decide)).mono ?_; rintro en w1 ⟨vA, rfl, hqb, hq, ho⟩; rw [HS.out] at hq hqb)
      | (go_at_call 44; refine (rrBytes_any h e x.n a3 a4 _ (t1.ref.only ho (Ne.symm t.ne))).mono ?_; rintro en w3 ⟨w2, nq, rfl, rfl, hq2, ho2⟩; have tt := t1.after hq ho hq2 ho2 hg hh (Nat.le_trans hB (by simp)); have hqb2 : Bs (w2.drewN nq) vA [] := hqb.imp0)
      | (go_at_call 14; refine (Same_yes _ _ [] _ hqb2 (Bs.nil _)).mono ?_; rintro en w' ⟨rfl, rfl⟩))
    go_ret
    exact ⟨rfl, ⟨_, tt.1.drewN nq⟩, below_drewN' (hb1.trans tt.2) nq⟩
  by_cases k4 : x.kind = 4
  · rw [k4] at t1 hb1 ⊢
    clear k4
    have HS := Lib.hid (stepF_nil 8 alNum e (by omega))
    have hnn : ((numW 0 : Nat) : Int) == ((numW 0 : Nat) : Int) := by simp
    go_enter Try.func22, Try.ntmps22
    go_wp2_with (first
      | (go_at_call 17; refine (Num_any g [] e _ t1.wire).mono ?_; rintro en w1 ⟨rfl, hq, ho⟩; rw [HS.out] at hq; rw [HS.out])
      | (go_at_call 45; refine (rrNum_any h e _ (t1.ref.only ho (Ne.symm t.ne))).mono ?_; rintro en w2 ⟨rfl, hq2, ho2⟩; have tt := t1.after hq ho hq2 ho2 hg hh (Nat.le_trans hB (by simp)))
      | (go_at_call 16; refine (rBits_any 0 _).mono ?_; rintro en w' ⟨rfl, rfl⟩))
    go_ret
    exact ⟨rfl, ⟨_, tt.1⟩, hb1.trans tt.2⟩
  by_cases k5 : x.kind = 5
  · rw [k5] at t1 hb1 ⊢
    clear k5
    have hE : endE [] e = e := by unfold endE; rw [if_neg (by rintro ⟨-, h⟩; exact h rfl)]
    have HE := Lib.hid hE
    clear hE
    go_enter Try.func22, Try.ntmps22
    go_wp2_with (first
      | (go_at_call 18; refine (End_any g [] e _ t1.wire).mono ?_; rintro en w1 ⟨rfl, hq, ho⟩; rw [HE.out] at hq; have hrf := t1.ref.only ho (Ne.symm t.ne))
      | (go_at_call 46; refine (rrEnd_any h e _ hrf).mono ?_; rintro en w2 ⟨nq, rfl, rfl⟩))
    go_ret
    exact ⟨rfl, ⟨e, (Two.mk hq hrf t.ne).drewN nq⟩, below_drewN' (hb1.trans (ho.to_below (Nat.le_trans hB (by simp)) hg)) nq⟩
  · have e0 : (x.kind == 0) = false := by simpa using k0
    have e1 : (x.kind == 1) = false := by simpa using k1
    have e2 : (x.kind == 2) = false := by simpa using k2
    have e3 : (x.kind == 3) = false := by simpa using k3
    have e4 : (x.kind == 4) = false := by simpa using k4
    have e5 : (x.kind == 5) = false := by simpa using k5
    clear k0 k1 k2 k3 k4 k5
    go_enter Try.func22, Try.ntmps22
    go_wp2
    go_ret
    exact ⟨rfl, ⟨e, t1⟩, hb1⟩

set_option maxRecDepth 100000 in
set_option maxHeartbeats 1000000 in
theorem ask_nil (h B : Nat) (x : Itm) (bx : Value) (w : World) (hx : x.ok) (hbx : Bs w bx x.b) (t : RfR w h 10) (hh : B ≤ h) (hB : B ≤ w.heap.size) :
    Calls Try.prog 22 #[.pointer none, .pointer (some ⟨h, 0, none⟩), x.val bx] w fun en w' => en = .returned (.bool true) ∧ Below B w w' := by
  obtain ⟨-, -, a3, a4, a5⟩ := hx
  have hox : bx.oneCell' = true := by obtain ⟨A, c, rfl, -⟩ := hbx.open; rfl
  unfold Itm.val
  have t1 := t.below ((Below.refl _ _).alloc (Nat.le_refl _) (.cells #[.int .i64 x.kind, .int .i64 x.n, bx, .float .f64 x.x] 32))
  have hb1 := (Below.refl B w).alloc hB (.cells #[.int .i64 x.kind, .int .i64 x.n, bx, .float .f64 x.x] 32)
  have hz : ((0 : Int) == 0) = true := rfl
  by_cases k0 : x.kind = 0
  · rw [k0] at t1 hb1 ⊢
    clear k0
    go_enter Try.func22, Try.ntmps22
    go_wp2_with (first
      | (go_at_call 11; refine (Int_nil _).mono ?_; rintro en w1 ⟨rfl, rfl⟩)
      | (go_at_call 41; refine (rrInt_any h 10 _ t1).mono ?_; rintro en w2 ⟨rfl, hq2, ho2⟩))
    go_ret
    exact ⟨rfl, hb1.trans (ho2.to_below (Nat.le_trans hB (by simp)) hh)⟩
  by_cases k1 : x.kind = 1
  · rw [k1] at t1 hb1 ⊢
    clear k1
    go_enter Try.func22, Try.ntmps22
    go_wp2_with (first
      | (go_at_call 12; refine (Bool_nil _).mono ?_; rintro en w1 ⟨rfl, rfl⟩)
      | (go_at_call 42; refine (rrBool_any h 10 _ t1).mono ?_; rintro en w2 ⟨rfl, hq2, ho2⟩))
    go_ret
    exact ⟨rfl, hb1.trans (ho2.to_below (Nat.le_trans hB (by simp)) hh)⟩
  by_cases k2 : x.kind = 2
  · rw [k2] at t1 hb1 ⊢
    clear k2
    go_enter Try.func22, Try.ntmps22
    go_wp2_with (first
      | (go_at_call 13; refine (Count_nil x.n a3 a4 _).mono ?_; rintro en w1 ⟨rfl, hbw⟩)
      | (go_at_call 43; refine (rrCount_any h 10 x.n a3 a4 _ (t1.below hbw)).mono ?_; rintro en w2 ⟨rfl, hq2, ho2⟩))
    go_ret
    exact ⟨rfl, (hb1.trans (hbw.mono (Nat.le_trans hB (by simp)))).trans (ho2.to_below (Nat.le_trans hB (Nat.le_trans (by simp) hbw.size)) hh)⟩
  by_cases k3 : x.kind = 3
  · rw [k3] at t1 hb1 ⊢
    clear k3
    go_enter Try.func22, Try.ntmps22
    go_wp2_with (first
      | (go_at_call 15; refine (Bytes_nil x.n a3 a4 _).mono ?_; rintro en w1 ⟨rfl, hbw⟩)
      | (go_at_call 44; refine (rrBytes_any h 10 x.n a3 a4 _ (t1.below hbw)).mono ?_; rintro en w3 ⟨w2, nq, rfl, rfl, hq2, ho2⟩)
      | (go_at_call 14; refine (Same_yes _ _ [] _ (Bs.nil _) (Bs.nil _)).mono ?_; rintro en w' ⟨rfl, rfl⟩))
    go_ret
    exact ⟨rfl, below_drewN' ((hb1.trans (hbw.mono (Nat.le_trans hB (by simp)))).trans (ho2.to_below (Nat.le_trans hB (Nat.le_trans (by simp) hbw.size)) hh)) nq⟩
  by_cases k4 : x.kind = 4
  · rw [k4] at t1 hb1 ⊢
    clear k4
    go_enter Try.func22, Try.ntmps22
    go_wp2_with (first
      | (go_at_call 17; refine (Num_nil _).mono ?_; rintro en w1 ⟨rfl, rfl⟩)
      | (go_at_call 45; refine (rrNum_any h 10 _ t1).mono ?_; rintro en w2 ⟨rfl, hq2, ho2⟩)
      | (go_at_call 16; refine (rBits_any 0 _).mono ?_; rintro en w' ⟨rfl, rfl⟩))
    go_ret
    exact ⟨rfl, hb1.trans (ho2.to_below (Nat.le_trans hB (by simp)) hh)⟩
  by_cases k5 : x.kind = 5
  · rw [k5] at t1 hb1 ⊢
    clear k5
    go_enter Try.func22, Try.ntmps22
    go_wp2_with (first
      | (go_at_call 18; refine (End_nil _).mono ?_; rintro en w1 ⟨rfl, rfl⟩)
      | (go_at_call 46; refine (rrEnd_any h 10 _ t1).mono ?_; rintro en w2 ⟨nq, rfl, rfl⟩))
    go_ret
    exact ⟨rfl, below_drewN' hb1 nq⟩
  · have e0 : (x.kind == 0) = false := by simpa using k0
    have e1 : (x.kind == 1) = false := by simpa using k1
    have e2 : (x.kind == 2) = false := by simpa using k2
    have e3 : (x.kind == 3) = false := by simpa using k3
    have e4 : (x.kind == 4) = false := by simpa using k4
    have e5 : (x.kind == 5) = false := by simpa using k5
    clear k0 k1 k2 k3 k4 k5
    go_enter Try.func22, Try.ntmps22
    go_wp2
    go_ret
    exact ⟨rfl, hb1⟩
end Go.Proofs.Ytdhpklbdajcfoaa
