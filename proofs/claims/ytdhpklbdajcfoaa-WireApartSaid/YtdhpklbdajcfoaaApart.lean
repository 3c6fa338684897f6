/- WireApart: two rows of things of the same kinds have the same bytes just if they are the same. -/
import Derived.Test.YtdhpklbdajcfoaaBack
namespace Go.Proofs.Ytdhpklbdajcfoaa
open Go.RowKit
set_option linter.unusedVariables false

theorem be_inj (k m n : Nat) (hm : m < 256 ^ k) (hn : n < 256 ^ k) (h : be k m = be k n) : m = n := by
  have := congrArg wordN h
  rwa [wordN_be k m hm, wordN_be k n hn] at this
theorem be_beq (k m n : Nat) (hm : m < 256 ^ k) (hn : n < 256 ^ k) : (be k m == be k n) = decide (m = n) := by
  rw [Bool.eq_iff_iff, beq_iff_eq, decide_eq_true_iff]
  exact ⟨be_inj k m n hm hn, fun h => by rw [h]⟩


theorem w64_beq (m n : Int) (h0 : -9223372036854775808 ≤ m) (h1 : m ≤ 9223372036854775807) (h2 : -9223372036854775808 ≤ n) (h3 : n ≤ 9223372036854775807) : (be 8 (w64 m) == be 8 (w64 n)) = decide (m = n) := by
  rw [be_beq 8 _ _ (w64_lt m) (w64_lt n), Bool.eq_iff_iff, decide_eq_true_iff, decide_eq_true_iff]
  refine ⟨fun h => ?_, fun h => by rw [h]⟩
  rw [← wrap_w64 m h0 h1, ← wrap_w64 n h2 h3, h]
theorem bool_beq (a b : Bool) : (be 1 a.toNat == be 1 b.toNat) = (a == b) := by cases a <;> cases b <;> decide
theorem cap_beq (m n : Int) : (be 4 (capC m).toNat == be 4 (capC n).toNat) = decide (capC m = capC n) := by
  have h0 : 0 ≤ capC m := by unfold capC; omega
  have h1 : capC m ≤ 4294967295 := by unfold capC; omega
  have h2 : 0 ≤ capC n := by unfold capC; omega
  have h3 : capC n ≤ 4294967295 := by unfold capC; omega
  rw [be_beq 4 _ _ (by omega) (by omega), Bool.eq_iff_iff, decide_eq_true_iff, decide_eq_true_iff]
  omega
theorem bytes_beq (l m : List UInt8) (hl : l.length ≤ 2000) (hm : m.length ≤ 2000) : (be 4 l.length ++ l == be 4 m.length ++ m) = (l == m) := by
  rw [Bool.eq_iff_iff, beq_iff_eq, beq_iff_eq]
  refine ⟨fun h => (List.append_inj h (by simp [be_length])).2, fun h => by rw [h]⟩
theorem num_beq (x y : Nat) (hx : x < 18446744073709551616) (hy : y < 18446744073709551616) : (be 8 (numW x) == be 8 (numW y)) = decide (numW x = numW y) := be_beq 8 _ _ (numW_lt x hx) (numW_lt y hy)

theorem ite_capC (n : Int) : (if 0 < if 4294967295 < n then 4294967295 else n then if 4294967295 < n then 4294967295 else n else 0) = capC n := by
  unfold capC
  repeat' split
  all_goals omega

set_option maxHeartbeats 1000000 in
theorem alike_any (x y : Itm) (bx by' : Value) (w : World) (hx : x.ok) (hy : y.ok) (hk : y.kind = x.kind) (hbx : Bs w bx x.b) (hby : Bs w by' y.b) (hlx : x.b.length ≤ 2000) (hly : y.b.length ≤ 2000) :
    Calls Try.prog 21 #[x.val bx, y.val by'] w fun e w' => e = .returned (.bool (enc x == enc y)) ∧ Below w.heap.size w w' := by
  obtain ⟨-, -, a3, a4, a5⟩ := hx
  obtain ⟨-, -, b3, b4, b5⟩ := hy
  have hox : bx.oneCell' = true := by obtain ⟨A, c, rfl, -⟩ := hbx.open; rfl
  have hoy : by'.oneCell' = true := by obtain ⟨A, c, rfl, -⟩ := hby.open; rfl
  unfold Itm.val
  rw [hk]
  by_cases k0 : x.kind = 0
  · have he : (enc x == enc y) = decide (x.n = y.n) := by rw [← w64_beq x.n y.n a3 a4 b3 b4]; simp [enc, k0, hk]
    rw [he, k0]
    clear he hk k0
    go_enter Try.func21, Try.ntmps21
    go_wp2
    go_ret
    exact ⟨ret_bool (by rw [Bool.eq_iff_iff, beq_iff_eq, decide_eq_true_iff]), (((Below.refl w.heap.size w).alloc (Nat.le_refl _) _).alloc (by simp) _)⟩
  by_cases k1 : x.kind = 1
  · have he : (enc x == enc y) = (decide (0 < x.n) == decide (0 < y.n)) := by rw [← bool_beq]; simp [enc, k0, k1, hk]
    rw [he, k1]
    clear he hk k0 k1
    go_enter Try.func21, Try.ntmps21
    go_wp2
    all_goals go_ret
    all_goals exact ⟨ret_bool (by first | rfl | simp [*]), (((Below.refl w.heap.size w).alloc (Nat.le_refl _) _).alloc (by simp) _)⟩
  by_cases k2 : x.kind = 2
  · have he : (enc x == enc y) = decide (capC x.n = capC y.n) := by rw [← cap_beq]; simp [enc, k0, k1, k2, hk]
    rw [he, k2]
    clear he hk k0 k1 k2
    go_enter Try.func21, Try.ntmps21
    go_wp2
    all_goals go_ret
    all_goals exact ⟨ret_bool (by rw [Bool.eq_iff_iff]; simp only [beq_iff_eq, decide_eq_true_iff, Bool.false_eq_true, true_iff, false_iff]; unfold capC; first | omega | ((repeat' split) <;> omega)), (((Below.refl w.heap.size w).alloc (Nat.le_refl _) _).alloc (by simp) _)⟩
  by_cases k3 : x.kind = 3
  · have he : (enc x == enc y) = (x.b == y.b) := by rw [← bytes_beq x.b y.b hlx hly]; simp [enc, k0, k1, k2, k3, hk]
    rw [he, k3]
    clear he hk k0 k1 k2 k3
    go_enter Try.func21, Try.ntmps21
    go_wp2_with (go_at_call 14; refine (Same_any _ _ x.b y.b _ (Rd.below hbx (((Below.refl w.heap.size w).alloc (Nat.le_refl _) _).alloc (by simp) _) (Nat.le_refl _)) (Rd.below hby (((Below.refl w.heap.size w).alloc (Nat.le_refl _) _).alloc (by simp) _) (Nat.le_refl _))).mono ?_; rintro e w' ⟨rfl, rfl⟩)
    go_ret
    exact ⟨rfl, (((Below.refl w.heap.size w).alloc (Nat.le_refl _) _).alloc (by simp) _)⟩
  by_cases k4 : x.kind = 4
  · have he : (enc x == enc y) = decide (numW x.x = numW y.x) := by rw [← num_beq x.x y.x a5 b5]; simp [enc, k0, k1, k2, k3, k4, hk]
    rw [he, k4]
    clear he hk k0 k1 k2 k3 k4
    go_enter Try.func21, Try.ntmps21
    go_wp2
    have hcx : (((w.alloc (.cells #[Value.int .i64 4, Value.int .i64 x.n, bx, Value.float .f64 x.x] 32)).alloc (.cells #[Value.int .i64 4, Value.int .i64 y.n, by', Value.float .f64 y.x] 32))).cell? ⟨w.heap.size, 3, none⟩ = some (Value.float .f64 x.x) := by
      rw [World.cell?_alloc_lt _ _ _ (by simp)]
      exact cell_of_row _ _ 3 _ 32 (0, 0) (heap_alloc_new w _)
    have hcy : (((w.alloc (.cells #[Value.int .i64 4, Value.int .i64 x.n, bx, Value.float .f64 x.x] 32)).alloc (.cells #[Value.int .i64 4, Value.int .i64 y.n, by', Value.float .f64 y.x] 32))).cell? ⟨w.heap.size + 1, 3, none⟩ = some (Value.float .f64 y.x) := by
      have h := heap_alloc_new (w.alloc (.cells #[Value.int .i64 4, Value.int .i64 x.n, bx, Value.float .f64 x.x] 32)) (.cells #[Value.int .i64 4, Value.int .i64 y.n, by', Value.float .f64 y.x] 32)
      simp only [World.size_alloc] at h
      exact cell_of_row _ _ 3 _ 32 (0, 0) h
    go_region_held3 (fun W => W.cell? ⟨w.heap.size, 3, none⟩ = some (Value.float .f64 x.x) ∧ W.cell? ⟨w.heap.size + 1, 3, none⟩ = some (Value.float .f64 y.x)) (first | exact ⟨hcx, hcy⟩ | assumption)
      (first
      | (go_at_call_of 16 (Value.float .f64 x.x); refine (rBits_any x.x _).mono ?_; rintro e w' ⟨rfl, rfl⟩)
      | (go_at_call_of 16 (Value.float .f64 y.x); refine (rBits_any y.x _).mono ?_; rintro e w' ⟨rfl, rfl⟩))
    all_goals go_wp2
    all_goals go_ret
    all_goals exact ⟨ret_bool (by rw [Bool.eq_iff_iff, beq_iff_eq, decide_eq_true_iff]; exact Int.ofNat_inj), (((Below.refl w.heap.size w).alloc (Nat.le_refl _) _).alloc (by simp) _).drew⟩
  · have he : (enc x == enc y) = true := by simp [enc, k0, k1, k2, k3, k4, hk]
    have e0 : (x.kind == 0) = false := by simpa using k0
    have e1 : (x.kind == 1) = false := by simpa using k1
    have e2 : (x.kind == 2) = false := by simpa using k2
    have e3 : (x.kind == 3) = false := by simpa using k3
    have e4 : (x.kind == 4) = false := by simpa using k4
    rw [he]
    clear he hk k0 k1 k2 k3 k4
    go_enter Try.func21, Try.ntmps21
    go_wp2
    go_ret
    exact ⟨rfl, (((Below.refl w.heap.size w).alloc (Nat.le_refl _) _).alloc (by simp) _)⟩

/-- a row of items in a block of the call's own: its cells, while the bytes lie in old memory -/
def ItmRow (w0 w : World) (g : Nat) (its : List Itm) : Prop := ∀ k i, its[k]? = some i → i.ok ∧ ∃ bv, Bs w0 bv i.b ∧ w.cell? ⟨g, k * 4, none⟩ = some (.int .i64 i.kind) ∧ w.cell? ⟨g, k * 4 + 1, none⟩ = some (.int .i64 i.n) ∧
  w.cell? ⟨g, k * 4 + 2, none⟩ = some bv ∧ w.cell? ⟨g, k * 4 + 3, none⟩ = some (.float .f64 i.x)

theorem ItmRow.itms {w0 w : World} {g c : Nat} {its : List Itm} (h : ItmRow w0 w g its) (hb : Below w0.heap.size w0 w) (hg : g < w.heap.size) (hc : its.length ≤ c) (hm : c ≤ maxLen) : Itms w (.slice (some ⟨g, 0, none⟩) its.length c) its := by
  refine ⟨some ⟨g, 0, none⟩, c, rfl, hc, hm, (by intro h; cases h), fun _ => ⟨⟨g, 0, none⟩, rfl, hg, fun k i hk => ?_⟩⟩
  obtain ⟨hok, bv, hbv, h0, h1, h2, h3⟩ := h k i hk
  rw [Addr.add_lit, Nat.zero_add]
  exact ⟨hok, bv, h0, h1, h2, Rd.below hbv hb (Nat.le_refl _), h3⟩

theorem so' {w : World} {a b : Addr} {v : Value} (h : a ≠ b) : (w.setCell a v).cell? b = w.cell? b := World.cell?_setCell_other w a b v h
theorem ss' {w : World} {a : Addr} {v u : Value} (h : w.cell? a = some u) : (w.setCell a v).cell? a = some v := World.cell?_setCell_same w a v h

/-- an item stored at a place of a row -/
def st4 (w : World) (g o : Nat) (v0 v1 v2 v3 : Value) : World := (((w.setCell ⟨g, o, none⟩ v0).setCell ⟨g, o + 1, none⟩ v1).setCell ⟨g, o + 2, none⟩ v2).setCell ⟨g, o + 3, none⟩ v3
theorem st4_other (w : World) (g o m : Nat) (v0 v1 v2 v3 : Value) (h : m < o ∨ o + 3 < m) : (st4 w g o v0 v1 v2 v3).cell? ⟨g, m, none⟩ = w.cell? ⟨g, m, none⟩ := by
  unfold st4
  rw [so' (by intro e; injection e; omega), so' (by intro e; injection e; omega), so' (by intro e; injection e; omega), so' (by intro e; injection e; omega)]
theorem st4_same (w : World) (g o : Nat) (v0 v1 v2 v3 u0 u1 u2 u3 : Value) (h0 : w.cell? ⟨g, o, none⟩ = some u0) (h1 : w.cell? ⟨g, o + 1, none⟩ = some u1) (h2 : w.cell? ⟨g, o + 2, none⟩ = some u2) (h3 : w.cell? ⟨g, o + 3, none⟩ = some u3) :
    (st4 w g o v0 v1 v2 v3).cell? ⟨g, o, none⟩ = some v0 ∧ (st4 w g o v0 v1 v2 v3).cell? ⟨g, o + 1, none⟩ = some v1 ∧ (st4 w g o v0 v1 v2 v3).cell? ⟨g, o + 2, none⟩ = some v2 ∧ (st4 w g o v0 v1 v2 v3).cell? ⟨g, o + 3, none⟩ = some v3 := by
  unfold st4
  refine ⟨?_, ?_, ?_, ?_⟩
  · rw [so' (by intro e; injection e; omega), so' (by intro e; injection e; omega), so' (by intro e; injection e; omega)]
    exact ss' h0
  · rw [so' (by intro e; injection e; omega), so' (by intro e; injection e; omega)]
    exact ss' (u := u1) (by rw [so' (by intro e; injection e; omega)]; exact h1)
  · rw [so' (by intro e; injection e; omega)]
    exact ss' (u := u2) (by rw [so' (by intro e; injection e; omega), so' (by intro e; injection e; omega)]; exact h2)
  · exact ss' (u := u3) (by rw [so' (by intro e; injection e; omega), so' (by intro e; injection e; omega), so' (by intro e; injection e; omega)]; exact h3)

theorem ItmRow.set {w0 w : World} {g i : Nat} {its : List Itm} {y : Itm} {by' : Value} (h : ItmRow w0 w g its) (hy : y.ok) (hby : Bs w0 by' y.b) (hi : i < its.length) :
    ItmRow w0 (st4 w g (i * 4) (.int .i64 y.kind) (.int .i64 y.n) by' (.float .f64 y.x)) g (its.set i y) := by
  intro k it hk
  obtain ⟨hok0, bv0, -, e0, e1, e2, e3⟩ := h i its[i] (List.getElem?_eq_getElem hi)
  by_cases hik : i = k
  · subst hik
    rw [List.getElem?_set_self hi] at hk
    injection hk with hk
    subst hk
    exact ⟨hy, by', hby, st4_same w g (i * 4) _ _ _ _ _ _ _ _ e0 e1 e2 e3⟩
  · rw [List.getElem?_set_ne hik] at hk
    obtain ⟨hok, bv, hbv, f0, f1, f2, f3⟩ := h k it hk
    refine ⟨hok, bv, hbv, ?_, ?_, ?_, ?_⟩
    · rw [st4_other _ _ _ _ _ _ _ _ (by omega)]; exact f0
    · rw [st4_other _ _ _ _ _ _ _ _ (by omega)]; exact f1
    · rw [st4_other _ _ _ _ _ _ _ _ (by omega)]; exact f2
    · rw [st4_other _ _ _ _ _ _ _ _ (by omega)]; exact f3

theorem ItmRow.below {w0 w w' : World} {g : Nat} {its : List Itm} (h : ItmRow w0 w g its) (hb : Below w.heap.size w w') (hg : g < w.heap.size) : ItmRow w0 w' g its := by
  intro k it hk
  obtain ⟨hok, bv, hbv, f0, f1, f2, f3⟩ := h k it hk
  exact ⟨hok, bv, hbv, (hb.cell hg).trans f0, (hb.cell (p := ⟨g, _, none⟩) hg).trans f1, (hb.cell (p := ⟨g, _, none⟩) hg).trans f2, (hb.cell (p := ⟨g, _, none⟩) hg).trans f3⟩

/-- the cells of a row of items that came in -/
theorem Itms.cellAt {w : World} {ad : Addr} {its : List Itm} (hat : ∀ k i, its[k]? = some i → ItmAt w (ad.add (k * 4)) i) (j : Nat) (hj : j < its.length * 4) : ∃ u, w.cell? (ad.add j) = some u ∧ u.oneCell' = true := by
  have hk : j / 4 < its.length := by omega
  obtain ⟨-, bv, h0, h1, h2, h3, h4⟩ := hat (j / 4) its[j / 4] (List.getElem?_eq_getElem hk)
  have e : ad.add j = (ad.add (j / 4 * 4)).add (j % 4) := by rw [add_add']; congr 1; omega
  rw [e]
  have h : j % 4 = 0 ∨ j % 4 = 1 ∨ j % 4 = 2 ∨ j % 4 = 3 := by omega
  rcases h with h | h | h | h <;> rw [h]
  · exact ⟨_, by rw [Addr.add_zero']; exact h0, rfl⟩
  · exact ⟨_, by rw [Addr.add_succ']; exact h1, rfl⟩
  · refine ⟨_, by rw [Addr.add_succ']; exact h2, ?_⟩
    obtain ⟨A, c, rfl, -⟩ := h3.open
    rfl
  · exact ⟨_, by rw [Addr.add_succ']; exact h4, rfl⟩

/-- a copy of the cells is a row of the items -/
theorem ItmRow.copied {w0 w' : World} {ad : Addr} {g : Nat} {its : List Itm} (hat : ∀ k i, its[k]? = some i → ItmAt w0 (ad.add (k * 4)) i) (hc : ∀ j, j < its.length * 4 → w'.cell? ⟨g, j, none⟩ = w0.cell? (ad.add j)) : ItmRow w0 w' g its := by
  intro k it hk
  have hkl : k < its.length := (List.getElem?_eq_some_iff.1 hk).1
  obtain ⟨hok, bv, h0, h1, h2, h3, h4⟩ := hat k it hk
  refine ⟨hok, bv, h3, ?_, ?_, ?_, ?_⟩
  · rw [hc _ (by omega)]; exact h0
  · rw [hc _ (by omega), ← add_add', Addr.add_succ']; exact h1
  · rw [hc _ (by omega), ← add_add', Addr.add_succ']; exact h2
  · rw [hc _ (by omega), ← add_add', Addr.add_succ']; exact h4

/-- the bytes of a row with one thing set anew -/
theorem encs_set (its : List Itm) (i : Nat) (y : Itm) (hi : i < its.length) : (encs its == encs (its.set i y)) = (enc its[i] == enc y) := by
  have e1 : its = its.take i ++ its[i] :: its.drop (i + 1) := by rw [← List.drop_eq_getElem_cons hi, List.take_append_drop]
  have e2 : its.set i y = its.take i ++ y :: its.drop (i + 1) := List.set_eq_take_append_cons_drop ▸ by rw [if_pos hi]
  have h1 : encs its = encs (its.take i) ++ (enc its[i] ++ encs (its.drop (i + 1))) := (congrArg encs e1).trans (by unfold encs; rw [List.flatMap_append, List.flatMap_cons])
  have h2 : encs (its.set i y) = encs (its.take i) ++ (enc y ++ encs (its.drop (i + 1))) := by rw [e2]; simp [encs]
  rw [h1, h2, Bool.eq_iff_iff, beq_iff_eq, beq_iff_eq, List.append_cancel_left_eq, List.append_cancel_right_eq]

theorem iteminfo : (Try.prog.info? 32).map (fun i => (i.zero, i.size, i.bytes)) = some (some (.agg #[.int .i64 0, .int .i64 0, .slice none 0 0, .float .f64 0]), 4, 48) := by kernel_rfl
end Go.Proofs.Ytdhpklbdajcfoaa
