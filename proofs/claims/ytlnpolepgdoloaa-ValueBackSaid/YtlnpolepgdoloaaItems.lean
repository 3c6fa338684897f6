/- The law's items; few; the reference's encoders; Same. -/
import Derived.Test.YtlnpolepgdoloaaPut2
namespace Go.Proofs.Ytlnpolepgdoloaa
open Go.RowKit
set_option linter.unusedVariables false

theorem own_empty (w : World) (e : TypeId) (B n : Nat) (hB : B ≤ w.heap.size) (hn : n = w.heap.size) : (w.alloc (.cells #[] e)).ownsRow B e 1 (.slice (some ⟨n, 0, none⟩) 0 0) 0 [] := by
  subst hn
  exact World.ownsRow_made w #[] 0 hB (Nat.zero_le _) rfl

/-- a Go string of bytes -/
theorem run_str {w : World} {v : Value} {l : List UInt8} (h : Bs w v l) : (convert 42 9 v).run Try.prog w = .ok (.string ⟨l.toArray⟩) w := by
  obtain ⟨A, c, rfl, hc, _, hn, hx⟩ := h
  rcases A with _ | ad
  · have hc0 := hn rfl
    subst hc0
    have : l = [] := List.eq_nil_of_length_eq_zero (by simpa using hc)
    subst this
    exact run_convert_bytes_nil w _ _ Try.underlying42 Try.underlying5 _ _ _ Try.underlying9
  · have hl : (loadCells ad (l.map bc).length).run Try.prog w = .ok ((l.map fun b => (b.toNat : Int)).map (Value.int .u8)).toArray w := by
      have := run_loadCells_list (P := Try.prog) w ad (l.map bc) (fun j u hj => by
        obtain ⟨ad', e, _, hr⟩ := hx (by rintro h; rw [h] at hj; simp at hj)
        injection e with e
        subst e
        exact hr j u hj)
      rw [this, List.map_map]
      rfl
    rw [run_convert_bytes_string w _ _ _ _ _ c Try.underlying42 Try.underlying5 Try.underlying9, run_bytesToString w _ _ c _ hl, foldl_push_bytes]
    simp [ByteArray.empty, ByteArray.emptyWithCapacity]
    show ([] : List UInt8) ++ _ = l
    rw [List.nil_append]
    conv => rhs; rw [← List.map_id l]
    exact List.map_congr_left fun b _ => by simp

theorem Same_any (v y : Value) (l m : List UInt8) (w : World) (hv : Bs w v l) (hy : Bs w y m) :
    Calls Try.prog 35 #[v, y] w fun e w' => e = .returned (.bool (l == m)) ∧ w = w' := by
  have e1 := run_str hv
  have e2 := run_str hy
  clear hv hy
  go_enter Try.func35, Try.ntmps35
  go_wp2
  go_ret
  exact ⟨by simp, rfl⟩

structure Itm where
  kind : Int
  n : Int
  b : List UInt8
  x : Nat

def Itm.ok (i : Itm) : Prop := -9223372036854775808 ≤ i.kind ∧ i.kind ≤ 9223372036854775807 ∧ -9223372036854775808 ≤ i.n ∧ i.n ≤ 9223372036854775807 ∧ i.x < 18446744073709551616

def ItmAt (w : World) (a : Addr) (i : Itm) : Prop := i.ok ∧ ∃ bv, w.cell? a = some (.int .i64 i.kind) ∧ w.cell? ⟨a.block, a.off + 1, none⟩ = some (.int .i64 i.n) ∧ w.cell? ⟨a.block, a.off + 2, none⟩ = some bv ∧ Bs w bv i.b ∧ w.cell? ⟨a.block, a.off + 3, none⟩ = some (.float .f64 i.x)

def Itms (w : World) (v : Value) (its : List Itm) : Prop :=
  ∃ A c, v = .slice A its.length c ∧ its.length ≤ c ∧ c ≤ maxLen ∧ (A = none → c = 0) ∧ (its ≠ [] → ∃ ad, A = some ad ∧ ad.block < w.heap.size ∧ ∀ k i, its[k]? = some i → ItmAt w (ad.add (k * 4)) i)

theorem add_add' (a : Addr) (i j : Nat) : (a.add i).add j = a.add (i + j) := by
  unfold Addr.add
  by_cases hi : i = 0 <;> by_cases hj : j = 0 <;> simp [hi, hj, Nat.add_assoc]

def fewB (its : List Itm) : Bool := its.length ≤ 200 && its.all fun i => i.b.length ≤ 2000

/-! the reference's encoders -/
set_option maxHeartbeats 400000 in
theorem rInt_any (v : Value) (l : List UInt8) (n : Int) (w : World) (hv : Bs w v l) (hb : l.length ≤ 10000000000000) :
    Calls Try.prog 76 #[v, .int .i64 n] w (Puts w (l ++ be 8 (w64 n))) := by
  go_enter Try.func76, Try.ntmps76
  go_wp2_with (go_at_call 101; refine (bits_any v l _ 8 w hv (u64_0 n) (u64_1 n) (by omega) (by omega)).mono ?_; rintro e w1 ⟨v1, rfl, hown1, hb1⟩)
  go_ret
  exact Puts.mk_own (by simpa [w64] using hown1) hb1

set_option maxHeartbeats 400000 in
theorem rBool_any (v : Value) (l : List UInt8) (x : Bool) (w : World) (hv : Bs w v l) (hb : l.length ≤ 10000000000000) :
    Calls Try.prog 77 #[v, .bool x] w (Puts w (l ++ be 1 x.toNat)) := by
  cases x
  all_goals
    go_enter Try.func77, Try.ntmps77
    go_wp2_with (go_at_call 101; refine (bits_any v l _ 1 w hv (by omega) (by omega) (by omega) (by omega)).mono ?_; rintro e w1 ⟨v1, rfl, hown1, hb1⟩)
    go_ret
    exact Puts.mk_own (by simpa using hown1) hb1

set_option maxHeartbeats 400000 in
theorem rCount_any (v : Value) (l : List UInt8) (n : Int) (w : World) (hv : Bs w v l) (hb : l.length ≤ 10000000000000) (h0 : -9223372036854775808 ≤ n) (h1 : n ≤ 9223372036854775807) :
    Calls Try.prog 102 #[v, .int .i64 n] w (Puts w (l ++ be 4 (capC n).toNat)) := by
  have c0 : 0 ≤ capC n := by unfold capC; omega
  have c1 : capC n < 18446744073709551616 := by unfold capC; omega
  rcases (show n < 0 ∨ n = 0 ∨ (0 < n ∧ n ≤ 4294967295) ∨ 4294967295 < n from by omega) with h | rfl | h | h
  · have e : capC n = 0 := by unfold capC; omega
    have E := Lib.hid e; clear e
    go_enter Try.func102, Try.ntmps102
    go_wp2_with (go_at_call 101; refine (bits_any v l _ 4 w hv (by omega) (by omega) (by omega) (by omega)).mono ?_; rintro e w1 ⟨v1, rfl, hown1, hb1⟩)
    go_ret
    exact Puts.mk_own (by rw [E.out]; simpa using hown1) hb1
  · go_enter Try.func102, Try.ntmps102
    go_wp2_with (go_at_call 101; refine (bits_any v l _ 4 w hv (by omega) (by omega) (by omega) (by omega)).mono ?_; rintro e w1 ⟨v1, rfl, hown1, hb1⟩)
    go_ret
    exact Puts.mk_own (by rw [show capC 0 = 0 from rfl]; simpa using hown1) hb1
  · obtain ⟨h2, h3⟩ := h
    have e : capC n = n := by unfold capC; omega
    have E := Lib.hid e; clear e
    go_enter Try.func102, Try.ntmps102
    go_wp2_with (go_at_call 101; refine (bits_any v l _ 4 w hv (by omega) (by omega) (by omega) (by omega)).mono ?_; rintro e w1 ⟨v1, rfl, hown1, hb1⟩)
    go_ret
    exact Puts.mk_own (by rw [E.out]; simpa using hown1) hb1
  · have e : capC n = 4294967295 := by unfold capC; omega
    have E := Lib.hid e; clear e
    go_enter Try.func102, Try.ntmps102
    go_wp2_with (go_at_call 101; refine (bits_any v l _ 4 w hv (by omega) (by omega) (by omega) (by omega)).mono ?_; rintro e w1 ⟨v1, rfl, hown1, hb1⟩)
    go_ret
    exact Puts.mk_own (by rw [E.out]; simpa using hown1) hb1

set_option maxHeartbeats 400000 in
theorem rBits_any (b : Nat) (w : World) : Calls Try.prog 42 #[.float .f64 b] w fun e w' => e = .returned (.int .u64 (numW b)) ∧ w = w' := by
  have hfb := bits_of b
  go_enter Try.func42, Try.ntmps42
  go_wp2_with (simp only [hfb])
  · have hc : nanB b = true := by unfold nanB; assumption
    go_ret
    exact ⟨ret_int (by simp [numW, hc]), rfl⟩
  · have hc : nanB b = false := by unfold nanB; assumption
    go_ret
    exact ⟨ret_int (by simp [numW, hc]), rfl⟩

set_option maxHeartbeats 400000 in
theorem rNum_any (v : Value) (l : List UInt8) (b : Nat) (w : World) (hv : Bs w v l) (hb : l.length ≤ 10000000000000) (hb64 : b < 18446744073709551616) :
    Calls Try.prog 79 #[v, .float .f64 b] w (Puts w (l ++ be 8 (numW b))) := by
  have h64 : numW b < 18446744073709551616 := by unfold numW; split <;> omega
  go_enter Try.func79, Try.ntmps79
  go_wp2_with (first
    | (go_at_call 42; refine (rBits_any b _).mono ?_; rintro e w' ⟨rfl, rfl⟩)
    | (go_at_call 101; refine (bits_any v l _ 8 w hv (by omega) (by omega) (by omega) (by omega)).mono ?_; rintro e w1 ⟨v1, rfl, hown1, hb1⟩))
  go_ret
  exact Puts.mk_own (by simpa using hown1) hb1

set_option maxHeartbeats 400000 in
theorem rBytes_any (v y : Value) (l m : List UInt8) (w : World) (hv : Bs w v l) (hy : Bs w y m) (hb : l.length ≤ 10000000000000) (hm : m.length ≤ 4000000000) :
    Calls Try.prog 78 #[v, y] w (Puts w (l ++ be 4 m.length ++ m)) := by
  obtain ⟨i0, hi, hz0, hz1, hz2⟩ := info_parts u8info
  have hy' := hy
  obtain ⟨A, c, rfl, hc, hmx, -, -⟩ := hy
  simp only [List.length_map] at hc hy' ⊢
  have c2 : (capC m.length).toNat = m.length := by unfold capC; omega
  have C2 := Lib.hid c2; clear c2
  go_enter Try.func78, Try.ntmps78
  go_wp2_with (first
    | (go_at_call 102; refine (rCount_any v l m.length w hv hb (by omega) (by omega)).mono ?_; rintro e w1 ⟨v1, rfl, hown1, hb1⟩)
    | (at_builtin; refine wpList_append_rd _ rfl _ _ 42 rfl w.heap.size 5 i0 (.int .u8 0) 1 Try.underlying42 hi hz0 hz1 hz2 rfl _ _ _ rfl hown1 _ _ rfl (Rd.below hy' hb1 (Nat.le_refl _)) (bc_one m) (by simp [be_length]; unfold maxLen; omega) (by simp [be_length]; omega) (by have := hb1.size; omega) ?_; intro v3 w3 hown3 hg3))
  go_ret
  refine Puts.mk_own (by rw [C2.out] at hown3; rw [List.map_append]; exact hown3) ?_
  exact hb1.grown hg3 (by have := hb1.size; omega) (fun k hk => (hown1.lt k hk).1)
end Go.Proofs.Ytlnpolepgdoloaa
