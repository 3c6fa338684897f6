/- Layer 12: the document's Same; MessageApart, walked. -/
import Derived.Test.Ytjekpchcbbiohaatf
/- Layer 12: are two messages the same, by the document, in general. -/
namespace Go.Proofs.Ytjekpchcbbiohaa
open Go.RowKit
set_option linter.unusedVariables false
set_option linter.unusedSimpArgs false
set_option maxRecDepth 20000

set_option maxHeartbeats 2000000 in
theorem rCerts_any (x y : Crt) (bv cv : Value) (A : Option Addr) (a : Nat) (D : Option Addr) (d : Nat) (w : World) (hb : Bs w bv x.1.2) (hc : Bs w cv y.1.2) (hl : EnvK w A a x.2) (hm : EnvK w D d y.2) :
    Calls Try.prog 26 #[agCt x.1.1 bv A x.2.length a, agCt y.1.1 cv D y.2.length d] w (AskB (decide (x = y)) w) := by
  by_cases h1 : x = y
  · subst h1
    rw [decide_eq_true rfl]
    exact rCerts_true x bv cv A a D d w hb hc hl hm
  rw [decide_eq_false h1]
  obtain ⟨BA, b1, rfl, -⟩ := hb.open
  obtain ⟨CA, c1, rfl, -⟩ := hc.open
  obtain ⟨x1, x2, x3⟩ := box2B w #[.int .i64 x.1.1, .slice BA x.1.2.length b1, .slice A x.2.length a] #[.int .i64 y.1.1, .slice CA y.1.2.length c1, .slice D y.2.length d] 47 47
  have HX1 := Lib.hid x1
  have HX2 := Lib.hid x2
  have HB := Lib.hid x3
  by_cases h2 : x.1 = y.1
  · have h3 : ¬ x.2 = y.2 := fun h => h1 (Prod.ext h2 h)
    have HS := Lib.hid (fun W (h : Below w.heap.size w W) => show Calls Try.prog 31 #[.agg #[.int .i64 x.1.1, .slice BA x.1.2.length b1], .agg #[.int .i64 y.1.1, .slice CA y.1.2.length c1]] W (AskB true W) from by
      have := rSame3_any x.1 y.1 _ _ W (hb.below h (Nat.le_refl _)) (hc.below h (Nat.le_refl _))
      rw [decide_eq_true h2] at this
      exact this)
    have HA := Lib.hid (fun W (h : Below w.heap.size w W) => show Calls Try.prog 18 #[.slice A x.2.length a, .slice D y.2.length d] W (AskB false W) from by
      have := rAll3_any x.2 y.2 A a D d W (hl.below h) (hm.below h)
      rw [decide_eq_false h3] at this
      exact this)
    clear x1 x2 x3 hb hc hl hm h1 h2 h3
    generalize x.1.2.length = n at *
    generalize x.1.1 = s at *
    generalize x.2.length = k at *
    generalize y.1.2.length = n2 at *
    generalize y.1.1 = s2 at *
    generalize y.2.length = k2 at *
    go_enter Try.func26, Try.ntmps26
    go_wp2_with (first
      | (go_at_call 31; refine (HS.out _ HB.out).mono ?_; rintro e w1 ⟨rfl, hb⟩; have HX1 := Lib.hid (heapB HX1.out hb); have HX2 := Lib.hid (heapB HX2.out hb); have HB := Lib.hid (bel2M HB.out hb); have q1 := rowCell HX1.out 2 (.slice A k a) rfl; have q2 := rowCell HX2.out 2 (.slice D k2 d) rfl; clear hb)
      | (go_at_call 18; refine (HA.out _ HB.out).mono ?_; rintro e w2 ⟨rfl, hb⟩; have HB := Lib.hid (bel2M HB.out hb); clear hb))
    go_ret
    exact ⟨rfl, HB.out⟩
  · have HS := Lib.hid (fun W (h : Below w.heap.size w W) => show Calls Try.prog 31 #[.agg #[.int .i64 x.1.1, .slice BA x.1.2.length b1], .agg #[.int .i64 y.1.1, .slice CA y.1.2.length c1]] W (AskB false W) from by
      have := rSame3_any x.1 y.1 _ _ W (hb.below h (Nat.le_refl _)) (hc.below h (Nat.le_refl _))
      rw [decide_eq_false h2] at this
      exact this)
    clear x1 x2 x3 hb hc hl hm h1 h2
    generalize x.1.2.length = n at *
    generalize x.1.1 = s at *
    generalize x.2.length = k at *
    generalize y.1.2.length = n2 at *
    generalize y.1.1 = s2 at *
    generalize y.2.length = k2 at *
    go_enter Try.func26, Try.ntmps26
    go_wp2_with (first
      | (go_at_call 31; refine (HS.out _ HB.out).mono ?_; rintro e w1 ⟨rfl, hb⟩; have HB := Lib.hid (bel2M HB.out hb); clear hb))
    go_ret
    exact ⟨rfl, HB.out⟩
/-! two messages that differ: the walk ends with a no -/
set_option maxHeartbeats 4000000 in
theorem same_k (k : Int) (v : Int) (s : Int) (c : Int) (t : Int) (d : List UInt8) (x : List UInt8) (ra : Int) (rb : Int) (b : List (Int × List UInt8)) (p : List (Int × List UInt8)) (q : List Crt) (k' : Int) (v' : Int) (s' : Int) (c' : Int) (t' : Int) (d' : List UInt8) (x' : List UInt8) (ra' : Int) (rb' : Int) (b' : List (Int × List UInt8)) (p' : List (Int × List UInt8)) (q' : List Crt) (P Q : Plc) (w : World) (h : (k != k') = true) : Calls Try.prog 12 #[agM ⟨k, v, s, c, t, d, x, (ra, rb), b, p, q⟩ P, agM ⟨k', v', s', c', t', d', x', (ra', rb'), b', p', q'⟩ Q] w (AskB false w) := by
  obtain ⟨x1, x2, x3⟩ := box2B w (msC ⟨k, v, s, c, t, d, x, (ra, rb), b, p, q⟩ P) (msC ⟨k', v', s', c', t', d', x', (ra', rb'), b', p', q'⟩ Q) 30 30
  have HX := Lib.hid x1
  have HY := Lib.hid x2
  have HB := Lib.hid x3
  clear x1 x2 x3
  go_enter Try.func12, Try.ntmps12
  go_wp2
  go_ret
  exact ⟨rfl, HB.out⟩
set_option maxHeartbeats 4000000 in
theorem same_v (k : Int) (v : Int) (s : Int) (c : Int) (t : Int) (d : List UInt8) (x : List UInt8) (ra : Int) (rb : Int) (b : List (Int × List UInt8)) (p : List (Int × List UInt8)) (q : List Crt) (v' : Int) (s' : Int) (c' : Int) (t' : Int) (d' : List UInt8) (x' : List UInt8) (ra' : Int) (rb' : Int) (b' : List (Int × List UInt8)) (p' : List (Int × List UInt8)) (q' : List Crt) (P Q : Plc) (w : World) (h : (v != v') = true) : Calls Try.prog 12 #[agM ⟨k, v, s, c, t, d, x, (ra, rb), b, p, q⟩ P, agM ⟨k, v', s', c', t', d', x', (ra', rb'), b', p', q'⟩ Q] w (AskB false w) := by
  obtain ⟨x1, x2, x3⟩ := box2B w (msC ⟨k, v, s, c, t, d, x, (ra, rb), b, p, q⟩ P) (msC ⟨k, v', s', c', t', d', x', (ra', rb'), b', p', q'⟩ Q) 30 30
  have HX := Lib.hid x1
  have HY := Lib.hid x2
  have HB := Lib.hid x3
  clear x1 x2 x3
  go_enter Try.func12, Try.ntmps12
  go_wp2
  go_ret
  exact ⟨rfl, HB.out⟩
set_option maxHeartbeats 4000000 in
theorem same_s (k : Int) (v : Int) (s : Int) (c : Int) (t : Int) (d : List UInt8) (x : List UInt8) (ra : Int) (rb : Int) (b : List (Int × List UInt8)) (p : List (Int × List UInt8)) (q : List Crt) (s' : Int) (c' : Int) (t' : Int) (d' : List UInt8) (x' : List UInt8) (ra' : Int) (rb' : Int) (b' : List (Int × List UInt8)) (p' : List (Int × List UInt8)) (q' : List Crt) (P Q : Plc) (w : World) (h : (s != s') = true) : Calls Try.prog 12 #[agM ⟨k, v, s, c, t, d, x, (ra, rb), b, p, q⟩ P, agM ⟨k, v, s', c', t', d', x', (ra', rb'), b', p', q'⟩ Q] w (AskB false w) := by
  obtain ⟨x1, x2, x3⟩ := box2B w (msC ⟨k, v, s, c, t, d, x, (ra, rb), b, p, q⟩ P) (msC ⟨k, v, s', c', t', d', x', (ra', rb'), b', p', q'⟩ Q) 30 30
  have HX := Lib.hid x1
  have HY := Lib.hid x2
  have HB := Lib.hid x3
  clear x1 x2 x3
  go_enter Try.func12, Try.ntmps12
  go_wp2
  go_ret
  exact ⟨rfl, HB.out⟩
set_option maxHeartbeats 4000000 in
theorem same_c (k : Int) (v : Int) (s : Int) (c : Int) (t : Int) (d : List UInt8) (x : List UInt8) (ra : Int) (rb : Int) (b : List (Int × List UInt8)) (p : List (Int × List UInt8)) (q : List Crt) (c' : Int) (t' : Int) (d' : List UInt8) (x' : List UInt8) (ra' : Int) (rb' : Int) (b' : List (Int × List UInt8)) (p' : List (Int × List UInt8)) (q' : List Crt) (P Q : Plc) (w : World) (h : (c != c') = true) : Calls Try.prog 12 #[agM ⟨k, v, s, c, t, d, x, (ra, rb), b, p, q⟩ P, agM ⟨k, v, s, c', t', d', x', (ra', rb'), b', p', q'⟩ Q] w (AskB false w) := by
  obtain ⟨x1, x2, x3⟩ := box2B w (msC ⟨k, v, s, c, t, d, x, (ra, rb), b, p, q⟩ P) (msC ⟨k, v, s, c', t', d', x', (ra', rb'), b', p', q'⟩ Q) 30 30
  have HX := Lib.hid x1
  have HY := Lib.hid x2
  have HB := Lib.hid x3
  clear x1 x2 x3
  go_enter Try.func12, Try.ntmps12
  go_wp2
  go_ret
  exact ⟨rfl, HB.out⟩
set_option maxHeartbeats 4000000 in
theorem same_t (k : Int) (v : Int) (s : Int) (c : Int) (t : Int) (d : List UInt8) (x : List UInt8) (ra : Int) (rb : Int) (b : List (Int × List UInt8)) (p : List (Int × List UInt8)) (q : List Crt) (t' : Int) (d' : List UInt8) (x' : List UInt8) (ra' : Int) (rb' : Int) (b' : List (Int × List UInt8)) (p' : List (Int × List UInt8)) (q' : List Crt) (P Q : Plc) (w : World) (h : (t != t') = true) : Calls Try.prog 12 #[agM ⟨k, v, s, c, t, d, x, (ra, rb), b, p, q⟩ P, agM ⟨k, v, s, c, t', d', x', (ra', rb'), b', p', q'⟩ Q] w (AskB false w) := by
  obtain ⟨x1, x2, x3⟩ := box2B w (msC ⟨k, v, s, c, t, d, x, (ra, rb), b, p, q⟩ P) (msC ⟨k, v, s, c, t', d', x', (ra', rb'), b', p', q'⟩ Q) 30 30
  have HX := Lib.hid x1
  have HY := Lib.hid x2
  have HB := Lib.hid x3
  clear x1 x2 x3
  go_enter Try.func12, Try.ntmps12
  go_wp2
  go_ret
  exact ⟨rfl, HB.out⟩
set_option maxHeartbeats 4000000 in
theorem same_d (k : Int) (v : Int) (s : Int) (c : Int) (t : Int) (d : List UInt8) (x : List UInt8) (ra : Int) (rb : Int) (b : List (Int × List UInt8)) (p : List (Int × List UInt8)) (q : List Crt) (d' : List UInt8) (x' : List UInt8) (ra' : Int) (rb' : Int) (b' : List (Int × List UInt8)) (p' : List (Int × List UInt8)) (q' : List Crt) (P Q : Plc) (w : World) (h : ((strB d).toList == (strB d').toList) = false) : Calls Try.prog 12 #[agM ⟨k, v, s, c, t, d, x, (ra, rb), b, p, q⟩ P, agM ⟨k, v, s, c, t, d', x', (ra', rb'), b', p', q'⟩ Q] w (AskB false w) := by
  obtain ⟨x1, x2, x3⟩ := box2B w (msC ⟨k, v, s, c, t, d, x, (ra, rb), b, p, q⟩ P) (msC ⟨k, v, s, c, t, d', x', (ra', rb'), b', p', q'⟩ Q) 30 30
  have HX := Lib.hid x1
  have HY := Lib.hid x2
  have HB := Lib.hid x3
  clear x1 x2 x3
  go_enter Try.func12, Try.ntmps12
  go_wp2
  go_ret
  exact ⟨rfl, HB.out⟩
set_option maxHeartbeats 4000000 in
theorem same_x (k : Int) (v : Int) (s : Int) (c : Int) (t : Int) (d : List UInt8) (x : List UInt8) (ra : Int) (rb : Int) (b : List (Int × List UInt8)) (p : List (Int × List UInt8)) (q : List Crt) (x' : List UInt8) (ra' : Int) (rb' : Int) (b' : List (Int × List UInt8)) (p' : List (Int × List UInt8)) (q' : List Crt) (P Q : Plc) (w : World) (h : ¬ x = x') (hx : Bs w (.slice P.x.1 x.length P.x.2) x) (hx' : Bs w (.slice Q.x.1 x'.length Q.x.2) x') : Calls Try.prog 12 #[agM ⟨k, v, s, c, t, d, x, (ra, rb), b, p, q⟩ P, agM ⟨k, v, s, c, t, d, x', (ra', rb'), b', p', q'⟩ Q] w (AskB false w) := by
  obtain ⟨x1, x2, x3⟩ := box2B w (msC ⟨k, v, s, c, t, d, x, (ra, rb), b, p, q⟩ P) (msC ⟨k, v, s, c, t, d, x', (ra', rb'), b', p', q'⟩ Q) 30 30
  have HX := Lib.hid x1
  have HY := Lib.hid x2
  have HB := Lib.hid x3
  have hself : ((strB d).toList == (strB d).toList) = true := by simp
  have HS := Lib.hid (fun W (hb : Below w.heap.size w W) => show Calls Try.prog 13 #[.slice P.x.1 x.length P.x.2, .slice Q.x.1 x'.length Q.x.2] W (fun e w' => e = .returned (.bool false) ∧ W = w') from by
    have := Same_any _ _ x x' W (hx.below hb (Nat.le_refl _)) (hx'.below hb (Nat.le_refl _))
    rw [show (x == x') = false by simpa using h] at this
    exact this)
  clear hx hx' h
  clear x1 x2 x3
  go_enter Try.func12, Try.ntmps12
  go_wp2_with (first
    | (go_at_call 13; refine (HS.out _ HB.out).mono ?_; rintro e w1 ⟨rfl, rfl⟩))
  go_ret
  exact ⟨rfl, HB.out⟩
set_option maxHeartbeats 4000000 in
theorem same_ra (k : Int) (v : Int) (s : Int) (c : Int) (t : Int) (d : List UInt8) (x : List UInt8) (ra : Int) (rb : Int) (b : List (Int × List UInt8)) (p : List (Int × List UInt8)) (q : List Crt) (ra' : Int) (rb' : Int) (b' : List (Int × List UInt8)) (p' : List (Int × List UInt8)) (q' : List Crt) (P Q : Plc) (w : World) (h : ¬ ra = ra') (hx : Bs w (.slice P.x.1 x.length P.x.2) x) (hx' : Bs w (.slice Q.x.1 x.length Q.x.2) x) : Calls Try.prog 12 #[agM ⟨k, v, s, c, t, d, x, (ra, rb), b, p, q⟩ P, agM ⟨k, v, s, c, t, d, x, (ra', rb'), b', p', q'⟩ Q] w (AskB false w) := by
  obtain ⟨x1, x2, x3⟩ := box2B w (msC ⟨k, v, s, c, t, d, x, (ra, rb), b, p, q⟩ P) (msC ⟨k, v, s, c, t, d, x, (ra', rb'), b', p', q'⟩ Q) 30 30
  have HX := Lib.hid x1
  have HY := Lib.hid x2
  have HB := Lib.hid x3
  have hself : ((strB d).toList == (strB d).toList) = true := by simp
  have HS := Lib.hid (fun W (hb : Below w.heap.size w W) => Same_yes _ _ x W (hx.below hb (Nat.le_refl _)) (hx'.below hb (Nat.le_refl _)))
  clear hx hx'
  clear x1 x2 x3
  go_enter Try.func12, Try.ntmps12
  go_wp2_with (first
    | (go_at_call 13; refine (HS.out _ HB.out).mono ?_; rintro e w1 ⟨rfl, rfl⟩))
  go_ret
  exact ⟨rfl, HB.out⟩
set_option maxHeartbeats 4000000 in
theorem same_rb (k : Int) (v : Int) (s : Int) (c : Int) (t : Int) (d : List UInt8) (x : List UInt8) (ra : Int) (rb : Int) (b : List (Int × List UInt8)) (p : List (Int × List UInt8)) (q : List Crt) (rb' : Int) (b' : List (Int × List UInt8)) (p' : List (Int × List UInt8)) (q' : List Crt) (P Q : Plc) (w : World) (h : ¬ rb = rb') (hx : Bs w (.slice P.x.1 x.length P.x.2) x) (hx' : Bs w (.slice Q.x.1 x.length Q.x.2) x) : Calls Try.prog 12 #[agM ⟨k, v, s, c, t, d, x, (ra, rb), b, p, q⟩ P, agM ⟨k, v, s, c, t, d, x, (ra, rb'), b', p', q'⟩ Q] w (AskB false w) := by
  obtain ⟨x1, x2, x3⟩ := box2B w (msC ⟨k, v, s, c, t, d, x, (ra, rb), b, p, q⟩ P) (msC ⟨k, v, s, c, t, d, x, (ra, rb'), b', p', q'⟩ Q) 30 30
  have HX := Lib.hid x1
  have HY := Lib.hid x2
  have HB := Lib.hid x3
  have hself : ((strB d).toList == (strB d).toList) = true := by simp
  have HS := Lib.hid (fun W (hb : Below w.heap.size w W) => Same_yes _ _ x W (hx.below hb (Nat.le_refl _)) (hx'.below hb (Nat.le_refl _)))
  clear hx hx'
  clear x1 x2 x3
  go_enter Try.func12, Try.ntmps12
  go_wp2_with (first
    | (go_at_call 13; refine (HS.out _ HB.out).mono ?_; rintro e w1 ⟨rfl, rfl⟩))
  go_ret
  exact ⟨rfl, HB.out⟩
set_option maxHeartbeats 4000000 in
theorem same_b (k : Int) (v : Int) (s : Int) (c : Int) (t : Int) (d : List UInt8) (x : List UInt8) (ra : Int) (rb : Int) (b : List (Int × List UInt8)) (p : List (Int × List UInt8)) (q : List Crt) (b' : List (Int × List UInt8)) (p' : List (Int × List UInt8)) (q' : List Crt) (P Q : Plc) (w : World) (h : ¬ b = b') (hx : Bs w (.slice P.x.1 x.length P.x.2) x) (hx' : Bs w (.slice Q.x.1 x.length Q.x.2) x) (hb : EnvK w P.b.1 P.b.2 b) (hb' : EnvK w Q.b.1 Q.b.2 b') : Calls Try.prog 12 #[agM ⟨k, v, s, c, t, d, x, (ra, rb), b, p, q⟩ P, agM ⟨k, v, s, c, t, d, x, (ra, rb), b', p', q'⟩ Q] w (AskB false w) := by
  obtain ⟨x1, x2, x3⟩ := box2B w (msC ⟨k, v, s, c, t, d, x, (ra, rb), b, p, q⟩ P) (msC ⟨k, v, s, c, t, d, x, (ra, rb), b', p', q'⟩ Q) 30 30
  have HX := Lib.hid x1
  have HY := Lib.hid x2
  have HB := Lib.hid x3
  have hself : ((strB d).toList == (strB d).toList) = true := by simp
  have HS := Lib.hid (fun W (hb : Below w.heap.size w W) => Same_yes _ _ x W (hx.below hb (Nat.le_refl _)) (hx'.below hb (Nat.le_refl _)))
  clear hx hx'
  have HA1 := Lib.hid (fun W (h9 : Below w.heap.size w W) => show Calls Try.prog 18 #[.slice P.b.1 b.length P.b.2, .slice Q.b.1 b'.length Q.b.2] W (AskB false W) from by
    have := rAll3_any b b' _ _ _ _ W (hb.below h9) (hb'.below h9)
    rw [decide_eq_false h] at this
    exact this)
  clear hb hb' h
  clear x1 x2 x3
  go_enter Try.func12, Try.ntmps12
  go_wp2_with (first
    | (go_at_call 13; refine (HS.out _ HB.out).mono ?_; rintro e w1 ⟨rfl, rfl⟩)
    | (go_at_call_of 18 (Value.slice P.b.1 b.length P.b.2); refine (HA1.out _ HB.out).mono ?_; rintro e w2 ⟨rfl, hb⟩; have HX := Lib.hid (heapB HX.out hb); have HY := Lib.hid (heapB HY.out hb); have HB := Lib.hid (bel2M HB.out hb); clear hb))
  go_ret
  exact ⟨rfl, HB.out⟩
set_option maxHeartbeats 4000000 in
theorem same_p (k : Int) (v : Int) (s : Int) (c : Int) (t : Int) (d : List UInt8) (x : List UInt8) (ra : Int) (rb : Int) (b : List (Int × List UInt8)) (p : List (Int × List UInt8)) (q : List Crt) (p' : List (Int × List UInt8)) (q' : List Crt) (P Q : Plc) (w : World) (h : ¬ p = p') (hx : Bs w (.slice P.x.1 x.length P.x.2) x) (hx' : Bs w (.slice Q.x.1 x.length Q.x.2) x) (hb : EnvK w P.b.1 P.b.2 b) (hb' : EnvK w Q.b.1 Q.b.2 b) (hp : EnvK w P.p.1 P.p.2 p) (hp' : EnvK w Q.p.1 Q.p.2 p') : Calls Try.prog 12 #[agM ⟨k, v, s, c, t, d, x, (ra, rb), b, p, q⟩ P, agM ⟨k, v, s, c, t, d, x, (ra, rb), b, p', q'⟩ Q] w (AskB false w) := by
  obtain ⟨x1, x2, x3⟩ := box2B w (msC ⟨k, v, s, c, t, d, x, (ra, rb), b, p, q⟩ P) (msC ⟨k, v, s, c, t, d, x, (ra, rb), b, p', q'⟩ Q) 30 30
  have HX := Lib.hid x1
  have HY := Lib.hid x2
  have HB := Lib.hid x3
  have hself : ((strB d).toList == (strB d).toList) = true := by simp
  have HS := Lib.hid (fun W (hb : Below w.heap.size w W) => Same_yes _ _ x W (hx.below hb (Nat.le_refl _)) (hx'.below hb (Nat.le_refl _)))
  clear hx hx'
  have HA1 := Lib.hid (fun W (h9 : Below w.heap.size w W) => show Calls Try.prog 18 #[.slice P.b.1 b.length P.b.2, .slice Q.b.1 b.length Q.b.2] W (AskB true W) from by
    have := rAll3_any b b _ _ _ _ W (hb.below h9) (hb'.below h9)
    rw [decide_eq_true rfl] at this
    exact this)
  have HA2 := Lib.hid (fun W (h9 : Below w.heap.size w W) => show Calls Try.prog 18 #[.slice P.p.1 p.length P.p.2, .slice Q.p.1 p'.length Q.p.2] W (AskB false W) from by
    have := rAll3_any p p' _ _ _ _ W (hp.below h9) (hp'.below h9)
    rw [decide_eq_false h] at this
    exact this)
  clear hb hb' hp hp' h
  clear x1 x2 x3
  go_enter Try.func12, Try.ntmps12
  go_wp2_with (first
    | (go_at_call 13; refine (HS.out _ HB.out).mono ?_; rintro e w1 ⟨rfl, rfl⟩)
    | (go_at_call_of 18 (Value.slice P.b.1 b.length P.b.2); refine (HA1.out _ HB.out).mono ?_; rintro e w2 ⟨rfl, hb⟩; have HX := Lib.hid (heapB HX.out hb); have HY := Lib.hid (heapB HY.out hb); have HB := Lib.hid (bel2M HB.out hb); clear hb; have x10 := rowCell HX.out 10 (.slice P.p.1 p.length P.p.2) rfl; have y10 := rowCell HY.out 10 (.slice Q.p.1 p'.length Q.p.2) rfl)
    | (go_at_call_of 18 (Value.slice P.p.1 p.length P.p.2); refine (HA2.out _ HB.out).mono ?_; rintro e w3 ⟨rfl, hb⟩; have HX := Lib.hid (heapB HX.out hb); have HY := Lib.hid (heapB HY.out hb); have HB := Lib.hid (bel2M HB.out hb); clear hb))
  go_ret
  exact ⟨rfl, HB.out⟩
set_option maxHeartbeats 4000000 in
theorem same_qn (k : Int) (v : Int) (s : Int) (c : Int) (t : Int) (d : List UInt8) (x : List UInt8) (ra : Int) (rb : Int) (b : List (Int × List UInt8)) (p : List (Int × List UInt8)) (q : List Crt) (q' : List Crt) (P Q : Plc) (w : World) (h : ((q.length : Int) != (q'.length : Int)) = true) (hx : Bs w (.slice P.x.1 x.length P.x.2) x) (hx' : Bs w (.slice Q.x.1 x.length Q.x.2) x) (hb : EnvK w P.b.1 P.b.2 b) (hb' : EnvK w Q.b.1 Q.b.2 b) (hp : EnvK w P.p.1 P.p.2 p) (hp' : EnvK w Q.p.1 Q.p.2 p) : Calls Try.prog 12 #[agM ⟨k, v, s, c, t, d, x, (ra, rb), b, p, q⟩ P, agM ⟨k, v, s, c, t, d, x, (ra, rb), b, p, q'⟩ Q] w (AskB false w) := by
  obtain ⟨x1, x2, x3⟩ := box2B w (msC ⟨k, v, s, c, t, d, x, (ra, rb), b, p, q⟩ P) (msC ⟨k, v, s, c, t, d, x, (ra, rb), b, p, q'⟩ Q) 30 30
  have HX := Lib.hid x1
  have HY := Lib.hid x2
  have HB := Lib.hid x3
  have hself : ((strB d).toList == (strB d).toList) = true := by simp
  have HS := Lib.hid (fun W (hb : Below w.heap.size w W) => Same_yes _ _ x W (hx.below hb (Nat.le_refl _)) (hx'.below hb (Nat.le_refl _)))
  clear hx hx'
  have HA1 := Lib.hid (fun W (h9 : Below w.heap.size w W) => show Calls Try.prog 18 #[.slice P.b.1 b.length P.b.2, .slice Q.b.1 b.length Q.b.2] W (AskB true W) from by
    have := rAll3_any b b _ _ _ _ W (hb.below h9) (hb'.below h9)
    rw [decide_eq_true rfl] at this
    exact this)
  have HA2 := Lib.hid (fun W (h9 : Below w.heap.size w W) => show Calls Try.prog 18 #[.slice P.p.1 p.length P.p.2, .slice Q.p.1 p.length Q.p.2] W (AskB true W) from by
    have := rAll3_any p p _ _ _ _ W (hp.below h9) (hp'.below h9)
    rw [decide_eq_true rfl] at this
    exact this)
  clear hb hb' hp hp'
  clear x1 x2 x3
  go_enter Try.func12, Try.ntmps12
  go_wp2_with (first
    | (go_at_call 13; refine (HS.out _ HB.out).mono ?_; rintro e w1 ⟨rfl, rfl⟩)
    | (go_at_call_of 18 (Value.slice P.b.1 b.length P.b.2); refine (HA1.out _ HB.out).mono ?_; rintro e w2 ⟨rfl, hb⟩; have HX := Lib.hid (heapB HX.out hb); have HY := Lib.hid (heapB HY.out hb); have HB := Lib.hid (bel2M HB.out hb); clear hb; have x10 := rowCell HX.out 10 (.slice P.p.1 p.length P.p.2) rfl; have y10 := rowCell HY.out 10 (.slice Q.p.1 p.length Q.p.2) rfl)
    | (go_at_call_of 18 (Value.slice P.p.1 p.length P.p.2); refine (HA2.out _ HB.out).mono ?_; rintro e w3 ⟨rfl, hb⟩; have HX := Lib.hid (heapB HX.out hb); have HY := Lib.hid (heapB HY.out hb); have HB := Lib.hid (bel2M HB.out hb); clear hb; have x11 := rowCell HX.out 11 (.slice P.q.1 q.length P.q.2) rfl; have y11 := rowCell HY.out 11 (.slice Q.q.1 q'.length Q.q.2) rfl))
  go_ret
  exact ⟨rfl, HB.out⟩
set_option maxHeartbeats 4000000 in
theorem same_q (k : Int) (v : Int) (s : Int) (c : Int) (t : Int) (d : List UInt8) (x : List UInt8) (ra : Int) (rb : Int) (b : List (Int × List UInt8)) (p : List (Int × List UInt8)) (q : List Crt) (q' : List Crt) (P Q : Plc) (w : World) (hn : q.length = q'.length) (hx : Bs w (.slice P.x.1 x.length P.x.2) x) (hx' : Bs w (.slice Q.x.1 x.length Q.x.2) x) (hb : EnvK w P.b.1 P.b.2 b) (hb' : EnvK w Q.b.1 Q.b.2 b) (hp : EnvK w P.p.1 P.p.2 p) (hp' : EnvK w Q.p.1 Q.p.2 p) (hq : CrtK w P.q.1 P.q.2 q) (hq' : CrtK w Q.q.1 Q.q.2 q') : Calls Try.prog 12 #[agM ⟨k, v, s, c, t, d, x, (ra, rb), b, p, q⟩ P, agM ⟨k, v, s, c, t, d, x, (ra, rb), b, p, q'⟩ Q] w (AskB (decide (q = q')) w) := by
  obtain ⟨x1, x2, x3⟩ := box2B w (msC ⟨k, v, s, c, t, d, x, (ra, rb), b, p, q⟩ P) (msC ⟨k, v, s, c, t, d, x, (ra, rb), b, p, q'⟩ Q) 30 30
  have HX := Lib.hid x1
  have HY := Lib.hid x2
  have HB := Lib.hid x3
  have hself : ((strB d).toList == (strB d).toList) = true := by simp
  have HS := Lib.hid (fun W (hb : Below w.heap.size w W) => Same_yes _ _ x W (hx.below hb (Nat.le_refl _)) (hx'.below hb (Nat.le_refl _)))
  clear hx hx'
  have HA1 := Lib.hid (fun W (h9 : Below w.heap.size w W) => show Calls Try.prog 18 #[.slice P.b.1 b.length P.b.2, .slice Q.b.1 b.length Q.b.2] W (AskB true W) from by
    have := rAll3_any b b _ _ _ _ W (hb.below h9) (hb'.below h9)
    rw [decide_eq_true rfl] at this
    exact this)
  have HA2 := Lib.hid (fun W (h9 : Below w.heap.size w W) => show Calls Try.prog 18 #[.slice P.p.1 p.length P.p.2, .slice Q.p.1 p.length Q.p.2] W (AskB true W) from by
    have := rAll3_any p p _ _ _ _ W (hp.below h9) (hp'.below h9)
    rw [decide_eq_true rfl] at this
    exact this)
  clear hb hb' hp hp'
  have e1 : ((q.length : Int) != (q'.length : Int)) = false := by simp; omega
  have hqm : q.length ≤ 9223372036854775807 := by have h1 := hq.1; have h2 := hq.2.1; unfold maxLen at h2; omega
  have HQ1 := Lib.hid (fun k hk => crt_open hq k hk)
  have HQ2 := Lib.hid (fun k hk => crt_open hq' k hk)
  have HYY := Lib.hid (fun (h : q.take q.length = q'.take q.length) => show decide (q = q') = true by rw [List.take_length, hn, List.take_length] at h; simpa using h)
  have HNN := Lib.hid (fun (k : Nat) (h1 : k < q.length) (h2 : k < q'.length) (h : q[k] ≠ q'[k]) => show decide (q = q') = false by simp; rintro rfl; exact h rfl)
  have HTT := Lib.hid (fun (k : Nat) (h1 : k < q.length) (h2 : k < q'.length) (h : q[k] = q'[k]) (ht : q.take k = q'.take k) => show q.take (k + 1) = q'.take (k + 1) by rw [List.take_succ_eq_append_getElem h1, List.take_succ_eq_append_getElem h2, h, ht])
  have HNL := Lib.hid hn
  clear hq hq' hn
  generalize decide (q = q') = res at *
  obtain ⟨PX, PB, PP, PA, pc⟩ := P
  obtain ⟨QX, QB, QP, QA, qc⟩ := Q
  simp only at *
  clear x1 x2 x3
  go_enter Try.func12, Try.ntmps12
  go_wp2_with (first
    | (go_at_call 13; refine (HS.out _ HB.out).mono ?_; rintro e w1 ⟨rfl, rfl⟩)
    | (go_at_call_of 18 (Value.slice PB.1 b.length PB.2); refine (HA1.out _ HB.out).mono ?_; rintro e w2 ⟨rfl, hb⟩; have HX := Lib.hid (heapB HX.out hb); have HY := Lib.hid (heapB HY.out hb); have HB := Lib.hid (bel2M HB.out hb); clear hb; have x10 := rowCell HX.out 10 (.slice PP.1 p.length PP.2) rfl; have y10 := rowCell HY.out 10 (.slice QP.1 p.length QP.2) rfl)
    | (go_at_call_of 18 (Value.slice PP.1 p.length PP.2); refine (HA2.out _ HB.out).mono ?_; rintro e w3 ⟨rfl, hb⟩; have HX := Lib.hid (heapB HX.out hb); have HY := Lib.hid (heapB HY.out hb); have HB := Lib.hid (bel2M HB.out hb); clear hb; have x11 := rowCell HX.out 11 (.slice PA q.length pc) rfl; have y11 := rowCell HY.out 11 (.slice QA q'.length qc) rfl))
  go_loopw [5] (fun i wr => ∃ k1 : Nat, k1 ≤ q.length ∧ i = .int .i64 k1 ∧ q.take k1 = q'.take k1 ∧ Below w.heap.size w wr ∧ wr.heap[w.heap.size]? = some (.cells (msC ⟨k, v, s, c, t, d, x, (ra, rb), b, p, q⟩ ⟨PX, PB, PP, PA, pc⟩) 30 (0, 0)) ∧ wr.heap[w.heap.size + 1]? = some (.cells (msC ⟨k, v, s, c, t, d, x, (ra, rb), b, p, q'⟩ ⟨QX, QB, QP, QA, qc⟩) 30 (0, 0))) (fun i _ => q.length - (intOf i).toNat)
  case atStart => exact ⟨0, Nat.zero_le _, rfl, rfl, HB.out, HX.out, HY.out⟩
  case round =>
    obtain ⟨k1, hk, rfl, htk, hb, hx, hy⟩ := hrel
    have HTK := Lib.hid htk
    have HB2 := Lib.hid hb
    have HX2 := Lib.hid hx
    have HY2 := Lib.hid hy
    have q11 := rowCell hx 11 (.slice PA q.length pc) rfl
    have r11 := rowCell hy 11 (.slice QA q'.length qc) rfl
    clear htk hb hx hy HB HX HY
    by_cases hlt : k1 < q.length
    · have hlt2 : k1 < q'.length := by have := HNL.out; omega
      have hltI : (k1 : Int) < (q.length : Int) := by omega
      have hltJ : (k1 : Int) < (q'.length : Int) := by omega
      obtain ⟨ad, bv, VA, vc, rfl, hbl, h1, h2, hbv, h3, h4⟩ := HQ1.out k1 hlt
      obtain ⟨ae, cv, VB, vd, rfl, hbe, g1, g2, hcv, g3, g4⟩ := HQ2.out k1 hlt2
      obtain ⟨BA, bc1, rfl, -⟩ := hbv.open
      obtain ⟨CA, cc1, rfl, -⟩ := hcv.open
      have c1 := cellM HB2.out (p := ad.add (k1 * 3)) (by rw [block_add]; exact hbl) h1
      have c2 := cellM HB2.out (p := ⟨(ad.add (k1 * 3)).block, (ad.add (k1 * 3)).off + 1, none⟩) (by rw [block_add]; exact hbl) h2
      have c3 := cellM HB2.out (p := ⟨(ad.add (k1 * 3)).block, (ad.add (k1 * 3)).off + 2, none⟩) (by rw [block_add]; exact hbl) h3
      have d1 := cellM HB2.out (p := ae.add (k1 * 3)) (by rw [block_add]; exact hbe) g1
      have d2 := cellM HB2.out (p := ⟨(ae.add (k1 * 3)).block, (ae.add (k1 * 3)).off + 1, none⟩) (by rw [block_add]; exact hbe) g2
      have d3 := cellM HB2.out (p := ⟨(ae.add (k1 * 3)).block, (ae.add (k1 * 3)).off + 2, none⟩) (by rw [block_add]; exact hbe) g3
      have HCC := Lib.hid (fun (z : Bool) (hz : decide (q[k1] = q'[k1]) = z) W (hW : Below w.heap.size w W) => show Calls Try.prog 26 #[.agg #[.int .i64 q[k1].1.1, .slice BA q[k1].1.2.length bc1, .slice VA q[k1].2.length vc], .agg #[.int .i64 q'[k1].1.1, .slice CA q'[k1].1.2.length cc1, .slice VB q'[k1].2.length vd]] W (AskB z W) from by
        rw [← hz]
        exact rCerts_any q[k1] q'[k1] _ _ VA vc VB vd W (hbv.below hW (Nat.le_refl _)) (hcv.below hW (Nat.le_refl _)) (h4.below hW) (g4.below hW))
      have HLT := Lib.hid hlt
      clear h1 h2 h3 h4 g1 g2 g3 g4 hbv hcv
      by_cases hxy : q[k1] = q'[k1]
      · have HC := Lib.hid (HCC.out true (decide_eq_true hxy))
        clear HCC
        have HNX := Lib.hid (HTT.out k1 hlt hlt2 hxy HTK.out)
        clear hxy
        generalize q[k1].1.1 = s1 at *
        generalize q[k1].1.2.length = bn at *
        generalize q[k1].2.length = vn at *
        generalize q'[k1].1.1 = s2 at *
        generalize q'[k1].1.2.length = bn2 at *
        generalize q'[k1].2.length = vn2 at *
        have HS0 := Lib.hid (show SS8 ⟨w.heap.size, 11, none⟩ ⟨w.heap.size + 1, 11, none⟩ (ad.add (k1 * 3)) (ae.add (k1 * 3)) (.slice (some ad) q.length pc) (.slice (some ae) q'.length qc) (.int .i64 s1) (.slice BA bn bc1) (.slice VA vn vc) (.int .i64 s2) (.slice CA bn2 cc1) (.slice VB vn2 vd) wr from ⟨q11, r11, c1, c2, c3, d1, d2, d3⟩)
        have HD := Lib.hid (show Below wr.heap.size wr wr.drew from (Below.refl _ _).drew)
        clear c1 c2 c3 d1 d2 d3
        go_upto_region 8 with fail
        clear q11 r11
        go_region_held3 (SS8 ⟨w.heap.size, 11, none⟩ ⟨w.heap.size + 1, 11, none⟩ (ad.add (k1 * 3)) (ae.add (k1 * 3)) (.slice (some ad) q.length pc) (.slice (some ae) q'.length qc) (.int .i64 s1) (.slice BA bn bc1) (.slice VA vn vc) (.int .i64 s2) (.slice CA bn2 cc1) (.slice VB vn2 vd)) (first | exact HS0.out.below HD.out | exact HS0.out.below HB3.out) (first
          | (go_at_call 26; refine (HC.out _ (bel2M HB2.out HD.out)).mono ?_; rintro e w3 ⟨rfl, hb⟩; have HB3 := Lib.hid (bel2M HD.out hb); clear hb))
        go_wp2
        go_roundw
        case rel => exact ⟨k1 + 1, by have := HLT.out; omega, by go_num, HNX.out, bel2M HB2.out HB3.out, heapB HX2.out HB3.out, heapB HY2.out HB3.out⟩
        case measure => simp [intOf]; have := HLT.out; omega
      · have HC := Lib.hid (HCC.out false (decide_eq_false hxy))
        clear HCC
        have HF := Lib.hid (HNN.out k1 hlt hlt2 hxy)
        clear hxy
        generalize q[k1].1.1 = s1 at *
        generalize q[k1].1.2.length = bn at *
        generalize q[k1].2.length = vn at *
        generalize q'[k1].1.1 = s2 at *
        generalize q'[k1].1.2.length = bn2 at *
        generalize q'[k1].2.length = vn2 at *
        have HS0 := Lib.hid (show SS8 ⟨w.heap.size, 11, none⟩ ⟨w.heap.size + 1, 11, none⟩ (ad.add (k1 * 3)) (ae.add (k1 * 3)) (.slice (some ad) q.length pc) (.slice (some ae) q'.length qc) (.int .i64 s1) (.slice BA bn bc1) (.slice VA vn vc) (.int .i64 s2) (.slice CA bn2 cc1) (.slice VB vn2 vd) wr from ⟨q11, r11, c1, c2, c3, d1, d2, d3⟩)
        have HD := Lib.hid (show Below wr.heap.size wr wr.drew from (Below.refl _ _).drew)
        clear c1 c2 c3 d1 d2 d3
        go_upto_region 8 with fail
        clear q11 r11
        go_region_held3 (SS8 ⟨w.heap.size, 11, none⟩ ⟨w.heap.size + 1, 11, none⟩ (ad.add (k1 * 3)) (ae.add (k1 * 3)) (.slice (some ad) q.length pc) (.slice (some ae) q'.length qc) (.int .i64 s1) (.slice BA bn bc1) (.slice VA vn vc) (.int .i64 s2) (.slice CA bn2 cc1) (.slice VB vn2 vd)) (first | exact HS0.out.below HD.out | exact HS0.out.below HB3.out) (first
          | (go_at_call 26; refine (HC.out _ (bel2M HB2.out HD.out)).mono ?_; rintro e w3 ⟨rfl, hb⟩; have HB3 := Lib.hid (bel2M HD.out hb); clear hb))
        go_wp2
        go_ret
        exact ⟨by rw [HF.out]; rfl, bel2M HB2.out HB3.out⟩
    · obtain rfl : k1 = q.length := by omega
      have hltI : ¬ (q.length : Int) < (q.length : Int) := by omega
      have HF := Lib.hid (HYY.out HTK.out)
      go_wp2
      go_ret
      exact ⟨by rw [HF.out]; rfl, HB2.out⟩
theorem digB_ne {l m : List UInt8} (h : ¬ l = m) : ((strB l).toList == (strB m).toList) = false := by
  simpa [strB] using h
theorem rSameM_any (m n : Msg) (P Q : Plc) (w : World) (hm : MsgK w m P) (hn : MsgK w n Q) : Calls Try.prog 12 #[agM m P, agM n Q] w (AskB (decide (m = n)) w) := by
  have key : ∀ z, decide (m = n) = z → Calls Try.prog 12 #[agM m P, agM n Q] w (AskB z w) → Calls Try.prog 12 #[agM m P, agM n Q] w (AskB (decide (m = n)) w) := fun x h hc => by rw [h]; exact hc
  obtain ⟨hmx, hmb, hmp, hmq⟩ := hm
  obtain ⟨hnx, hnb, hnp, hnq⟩ := hn
  obtain ⟨k, v, s, c, t, d, x, ⟨ra, rb⟩, b, p, q⟩ := m
  obtain ⟨k', v', s', c', t', d', x', ⟨ra', rb'⟩, b', p', q'⟩ := n
  simp only at hmx hmb hmp hmq hnx hnb hnp hnq
  by_cases hne : k = k'
  case neg => exact key false (by simp [hne]) (same_k k v s c t d x ra rb b p q k' v' s' c' t' d' x' ra' rb' b' p' q' P Q w (by simpa using hne))
  subst hne
  by_cases hne : v = v'
  case neg => exact key false (by simp [hne]) (same_v k v s c t d x ra rb b p q v' s' c' t' d' x' ra' rb' b' p' q' P Q w (by simpa using hne))
  subst hne
  by_cases hne : s = s'
  case neg => exact key false (by simp [hne]) (same_s k v s c t d x ra rb b p q s' c' t' d' x' ra' rb' b' p' q' P Q w (by simpa using hne))
  subst hne
  by_cases hne : c = c'
  case neg => exact key false (by simp [hne]) (same_c k v s c t d x ra rb b p q c' t' d' x' ra' rb' b' p' q' P Q w (by simpa using hne))
  subst hne
  by_cases hne : t = t'
  case neg => exact key false (by simp [hne]) (same_t k v s c t d x ra rb b p q t' d' x' ra' rb' b' p' q' P Q w (by simpa using hne))
  subst hne
  by_cases hne : d = d'
  case neg => exact key false (by simp [hne]) (same_d k v s c t d x ra rb b p q d' x' ra' rb' b' p' q' P Q w (digB_ne hne))
  subst hne
  by_cases hne : x = x'
  case neg => exact key false (by simp [hne]) (same_x k v s c t d x ra rb b p q x' ra' rb' b' p' q' P Q w hne hmx hnx)
  subst hne
  by_cases hne : ra = ra'
  case neg => exact key false (by simp [hne]) (same_ra k v s c t d x ra rb b p q ra' rb' b' p' q' P Q w hne hmx hnx)
  subst hne
  by_cases hne : rb = rb'
  case neg => exact key false (by simp [hne]) (same_rb k v s c t d x ra rb b p q rb' b' p' q' P Q w hne hmx hnx)
  subst hne
  by_cases hne : b = b'
  case neg => exact key false (by simp [hne]) (same_b k v s c t d x ra rb b p q b' p' q' P Q w hne hmx hnx hmb hnb)
  subst hne
  by_cases hne : p = p'
  case neg => exact key false (by simp [hne]) (same_p k v s c t d x ra rb b p q p' q' P Q w hne hmx hnx hmb hnb hmp hnp)
  subst hne
  by_cases hne : q.length = q'.length
  case neg => exact key false (by simp; intro h; exact hne (by rw [h])) (same_qn k v s c t d x ra rb b p q q' P Q w (by simp; omega) hmx hnx hmb hnb hmp hnp)
  exact key (decide (q = q')) (by simp) (same_q k v s c t d x ra rb b p q q' P Q w hne hmx hnx hmb hnb hmp hnp hmq hnq)
end Go.Proofs.Ytjekpchcbbiohaa

/- Layer 12: MessageApart, walked. (Made by gen/genglaw5.py.) -/
namespace Go.Proofs.Ytjekpchcbbiohaa
open Go.RowKit
set_option linter.unusedVariables false
set_option linter.unusedSimpArgs false
set_option maxRecDepth 20000

theorem enc_inj {m n : Msg} (ho : OkM m) (hd : MidM m) (hc : checkM m = true) (ho' : OkM n) (hd' : MidM n) (hc' : checkM n = true) (h : encM m = encM n) : m = n := by
  unfold encM at h
  rw [if_pos hc, if_pos hc'] at h
  have h1 := read_fo ho hd hc []
  have h2 := read_fo ho' hd' hc' []
  rw [h, h2] at h1
  exact (congrArg Prod.fst h1).symm
theorem put_same {m n : Msg} (om : OkM m) (on : OkM n) (hm : checkM m = true) (hn : checkM n = true) (lm : (putM m).length ≤ 100000) (ln : (putM n).length ≤ 100000) : (putM m == putM n) = decide (m = n) := by
  by_cases h : m = n
  · subst h
    simp
  · rw [decide_eq_false h]
    have : ¬ putM m = putM n := fun h2 => h (enc_inj om (mid_of hm lm) hm on (mid_of hn ln) hn (by rw [encM_yes hm, encM_yes hn, h2]))
    simpa using this
set_option maxHeartbeats 4000000 in
theorem MessageApart_any (m n : Msg) (P Q : Plc) (w : World) (hm : MsgK w m P) (hn : MsgK w n Q) (om : OkM m) (on : OkM n) : Calls Try.prog 4 #[agM m P, agM n Q] w (Yes w) := by
  obtain ⟨x1, x2, x3⟩ := box2B w (msC m P) (msC n Q) 30 30
  have HFA := Lib.hid (fun W (h : Below w.heap.size w W) => few12_any m P W (hm.below h))
  have HFB := Lib.hid (fun W (h : Below w.heap.size w W) => few12_any n Q W (hn.below h))
  have HCA := Lib.hid (fun W (hb : Below w.heap.size w W) => show Calls Try.prog 10 #[agM m P] W (Ans (.int .i64 (if checkM m = true then 0 else 120)) W) from gCheck_any m P W (hm.below hb))
  have HCB := Lib.hid (fun W (hb : Below w.heap.size w W) => show Calls Try.prog 10 #[agM n Q] W (Ans (.int .i64 (if checkM n = true then 0 else 120)) W) from gCheck_any n Q W (hn.below hb))
  have HW := Lib.hid (fun W => awake12_any W)
  have HB0 := Lib.hid x3
  generalize hw0 : ((w.alloc (.cells (msC m P) 30)).alloc (.cells (msC n Q) 30)) = w0 at *
  have HW0 := Lib.hid hw0
  have HK := Lib.hid (show ∀ W, Below w0.heap.size w0 W → (fun W => W.cell? ⟨w.heap.size, 0, none⟩ = some (.int .i64 m.k) ∧ W.cell? ⟨w.heap.size, 1, none⟩ = some (.int .i64 m.v) ∧ W.cell? ⟨w.heap.size, 2, none⟩ = some (.int .i64 m.s) ∧ W.cell? ⟨w.heap.size, 3, none⟩ = some (.int .i64 m.c) ∧ W.cell? ⟨w.heap.size, 4, none⟩ = some (.int .i64 m.t) ∧ W.cell? ⟨w.heap.size, 5, none⟩ = some (.string (strB m.d)) ∧ W.cell? ⟨w.heap.size, 6, none⟩ = some (.slice P.x.1 m.x.length P.x.2) ∧ W.cell? ⟨w.heap.size, 7, none⟩ = some (.int .i64 m.r.1) ∧ W.cell? ⟨w.heap.size, 8, none⟩ = some (.int .i64 m.r.2) ∧ W.cell? ⟨w.heap.size, 9, none⟩ = some (.slice P.b.1 m.b.length P.b.2) ∧ W.cell? ⟨w.heap.size, 10, none⟩ = some (.slice P.p.1 m.p.length P.p.2) ∧ W.cell? ⟨w.heap.size, 11, none⟩ = some (.slice P.q.1 m.q.length P.q.2) ∧ W.cell? ⟨w.heap.size + 1, 0, none⟩ = some (.int .i64 n.k) ∧ W.cell? ⟨w.heap.size + 1, 1, none⟩ = some (.int .i64 n.v) ∧ W.cell? ⟨w.heap.size + 1, 2, none⟩ = some (.int .i64 n.s) ∧ W.cell? ⟨w.heap.size + 1, 3, none⟩ = some (.int .i64 n.c) ∧ W.cell? ⟨w.heap.size + 1, 4, none⟩ = some (.int .i64 n.t) ∧ W.cell? ⟨w.heap.size + 1, 5, none⟩ = some (.string (strB n.d)) ∧ W.cell? ⟨w.heap.size + 1, 6, none⟩ = some (.slice Q.x.1 n.x.length Q.x.2) ∧ W.cell? ⟨w.heap.size + 1, 7, none⟩ = some (.int .i64 n.r.1) ∧ W.cell? ⟨w.heap.size + 1, 8, none⟩ = some (.int .i64 n.r.2) ∧ W.cell? ⟨w.heap.size + 1, 9, none⟩ = some (.slice Q.b.1 n.b.length Q.b.2) ∧ W.cell? ⟨w.heap.size + 1, 10, none⟩ = some (.slice Q.p.1 n.p.length Q.p.2) ∧ W.cell? ⟨w.heap.size + 1, 11, none⟩ = some (.slice Q.q.1 n.q.length Q.q.2)) W from fun W hb => by
    have hx := heapB x1 hb
    have hy := heapB x2 hb
    exact ⟨rowCell hx 0 _ rfl, rowCell hx 1 _ rfl, rowCell hx 2 _ rfl, rowCell hx 3 _ rfl, rowCell hx 4 _ rfl, rowCell hx 5 _ rfl, rowCell hx 6 _ rfl, rowCell hx 7 _ rfl, rowCell hx 8 _ rfl, rowCell hx 9 _ rfl, rowCell hx 10 _ rfl, rowCell hx 11 _ rfl, rowCell hy 0 _ rfl, rowCell hy 1 _ rfl, rowCell hy 2 _ rfl, rowCell hy 3 _ rfl, rowCell hy 4 _ rfl, rowCell hy 5 _ rfl, rowCell hy 6 _ rfl, rowCell hy 7 _ rfl, rowCell hy 8 _ rfl, rowCell hy 9 _ rfl, rowCell hy 10 _ rfl, rowCell hy 11 _ rfl⟩)
  clear x1 x2 x3 hw0
  obtain ⟨p0, p1, p2, p3, p4, p5, p6, p7, p8, p9, p10, p11, p12, p13, p14, p15, p16, p17, p18, p19, p20, p21, p22, p23⟩ := HK.out w0 (Below.refl _ _)
  rcases hfa : few12 m with _ | _
  · rw [hfa] at HFA
    clear hfa hm hn om on
    go_enter Try.func4, Try.ntmps4
    go_upto_region 1 with fail
    rw [HW0.out]
    go_wp2_with (first
      | (go_at_call_of 8 (Value.slice P.x.1 m.x.length P.x.2); refine (HFA.out _ HB0.out).mono ?_; rintro e w1 ⟨rfl, hb⟩; have HB1 := Lib.hid hb; clear hb; obtain ⟨p0, p1, p2, p3, p4, p5, p6, p7, p8, p9, p10, p11, p12, p13, p14, p15, p16, p17, p18, p19, p20, p21, p22, p23⟩ := HK.out _ HB1.out)
      | (go_at_call 14; refine (HW.out _).mono ?_; rintro e wz ⟨rfl, hbz⟩; have HBZ := Lib.hid (bel2M HB1.out hbz); clear hbz))
    go_ret
    exact ⟨rfl, bel2M HB0.out HBZ.out⟩
  rw [hfa] at HFA
  rcases hfb : few12 n with _ | _
  · rw [hfb] at HFB
    clear hfa hfb hm hn om on
    go_enter Try.func4, Try.ntmps4
    go_upto_region 1 with fail
    rw [HW0.out]
    go_wp2_with (first
      | (go_at_call_of 8 (Value.slice P.x.1 m.x.length P.x.2); refine (HFA.out _ HB0.out).mono ?_; rintro e w1 ⟨rfl, hb⟩; have HB1 := Lib.hid hb; clear hb; obtain ⟨p0, p1, p2, p3, p4, p5, p6, p7, p8, p9, p10, p11, p12, p13, p14, p15, p16, p17, p18, p19, p20, p21, p22, p23⟩ := HK.out _ HB1.out)
      | (go_at_call_of 8 (Value.slice Q.x.1 n.x.length Q.x.2); refine (HFB.out _ (bel2M HB0.out HB1.out)).mono ?_; rintro e w2 ⟨rfl, hb⟩; have HB2 := Lib.hid (bel2M HB1.out hb); clear hb; obtain ⟨p0, p1, p2, p3, p4, p5, p6, p7, p8, p9, p10, p11, p12, p13, p14, p15, p16, p17, p18, p19, p20, p21, p22, p23⟩ := HK.out _ HB2.out)
      | (go_at_call 14; refine (HW.out _).mono ?_; rintro e wz ⟨rfl, hbz⟩; have HBZ := Lib.hid (bel2M HB2.out hbz); clear hbz))
    go_ret
    exact ⟨rfl, bel2M HB0.out HBZ.out⟩
  rw [hfb] at HFB
  have fa := few12_iff hfa
  have fb := few12_iff hfb
  clear hfa hfb
  rcases hca : checkM m with _ | _
  · rw [hca] at HCA
    clear hca hm hn om on fa fb
    go_enter Try.func4, Try.ntmps4
    go_upto_region 1 with fail
    rw [HW0.out]
    go_wp2_with (first
      | (go_at_call_of 8 (Value.slice P.x.1 m.x.length P.x.2); refine (HFA.out _ HB0.out).mono ?_; rintro e w1 ⟨rfl, hb⟩; have HB1 := Lib.hid hb; clear hb; obtain ⟨p0, p1, p2, p3, p4, p5, p6, p7, p8, p9, p10, p11, p12, p13, p14, p15, p16, p17, p18, p19, p20, p21, p22, p23⟩ := HK.out _ HB1.out)
      | (go_at_call_of 8 (Value.slice Q.x.1 n.x.length Q.x.2); refine (HFB.out _ (bel2M HB0.out HB1.out)).mono ?_; rintro e w2 ⟨rfl, hb⟩; have HB2 := Lib.hid (bel2M HB1.out hb); clear hb; obtain ⟨p0, p1, p2, p3, p4, p5, p6, p7, p8, p9, p10, p11, p12, p13, p14, p15, p16, p17, p18, p19, p20, p21, p22, p23⟩ := HK.out _ HB2.out)
      | (go_at_call_of 10 (Value.slice P.x.1 m.x.length P.x.2); refine (HCA.out _ (bel2M HB0.out HB2.out)).mono ?_; rintro e w3 ⟨rfl, hb⟩; have HB3 := Lib.hid (bel2M HB2.out hb); clear hb; obtain ⟨p0, p1, p2, p3, p4, p5, p6, p7, p8, p9, p10, p11, p12, p13, p14, p15, p16, p17, p18, p19, p20, p21, p22, p23⟩ := HK.out _ HB3.out)
      | (go_at_call 14; refine (HW.out _).mono ?_; rintro e wz ⟨rfl, hbz⟩; have HBZ := Lib.hid (bel2M HB3.out hbz); clear hbz))
    go_ret
    exact ⟨rfl, bel2M HB0.out HBZ.out⟩
  rw [hca] at HCA
  rcases hcb : checkM n with _ | _
  · rw [hcb] at HCB
    clear hca hcb hm hn om on fa fb
    go_enter Try.func4, Try.ntmps4
    go_upto_region 1 with fail
    rw [HW0.out]
    go_wp2_with (first
      | (go_at_call_of 8 (Value.slice P.x.1 m.x.length P.x.2); refine (HFA.out _ HB0.out).mono ?_; rintro e w1 ⟨rfl, hb⟩; have HB1 := Lib.hid hb; clear hb; obtain ⟨p0, p1, p2, p3, p4, p5, p6, p7, p8, p9, p10, p11, p12, p13, p14, p15, p16, p17, p18, p19, p20, p21, p22, p23⟩ := HK.out _ HB1.out)
      | (go_at_call_of 8 (Value.slice Q.x.1 n.x.length Q.x.2); refine (HFB.out _ (bel2M HB0.out HB1.out)).mono ?_; rintro e w2 ⟨rfl, hb⟩; have HB2 := Lib.hid (bel2M HB1.out hb); clear hb; obtain ⟨p0, p1, p2, p3, p4, p5, p6, p7, p8, p9, p10, p11, p12, p13, p14, p15, p16, p17, p18, p19, p20, p21, p22, p23⟩ := HK.out _ HB2.out)
      | (go_at_call_of 10 (Value.slice P.x.1 m.x.length P.x.2); refine (HCA.out _ (bel2M HB0.out HB2.out)).mono ?_; rintro e w3 ⟨rfl, hb⟩; have HB3 := Lib.hid (bel2M HB2.out hb); clear hb; obtain ⟨p0, p1, p2, p3, p4, p5, p6, p7, p8, p9, p10, p11, p12, p13, p14, p15, p16, p17, p18, p19, p20, p21, p22, p23⟩ := HK.out _ HB3.out)
      | (go_at_call_of 10 (Value.slice Q.x.1 n.x.length Q.x.2); refine (HCB.out _ (bel2M HB0.out HB3.out)).mono ?_; rintro e w4 ⟨rfl, hb⟩; have HB4 := Lib.hid (bel2M HB3.out hb); clear hb; obtain ⟨p0, p1, p2, p3, p4, p5, p6, p7, p8, p9, p10, p11, p12, p13, p14, p15, p16, p17, p18, p19, p20, p21, p22, p23⟩ := HK.out _ HB4.out)
      | (go_at_call 14; refine (HW.out _).mono ?_; rintro e wz ⟨rfl, hbz⟩; have HBZ := Lib.hid (bel2M HB4.out hbz); clear hbz))
    go_ret
    exact ⟨rfl, bel2M HB0.out HBZ.out⟩
  rw [hcb] at HCB
  have la := few_len hca fa
  have lb := few_len hcb fb
  have HEA := Lib.hid (fun W (hb : Below w.heap.size w W) => show Calls Try.prog 9 #[agM m P] W (Puts W (putM m)) from by
    have := gEncode_any m P W (hm.below hb) (fun hc => sm_of hc la)
    rw [encM_yes hca] at this
    exact this)
  have HEB := Lib.hid (fun W (hb : Below w.heap.size w W) => show Calls Try.prog 9 #[agM n Q] W (Puts W (putM n)) from by
    have := gEncode_any n Q W (hn.below hb) (fun hc => sm_of hc lb)
    rw [encM_yes hcb] at this
    exact this)
  have HSM0 := Lib.hid (fun W (hb : Below w.heap.size w W) => rSameM_any m n P Q W (hm.below hb) (hn.below hb))
  have HSB0 := Lib.hid (fun u v W (hu : Bs W u (putM m)) (hv : Bs W v (putM n)) => show Calls Try.prog 13 #[u, v] W (fun e w' => e = .returned (.bool (decide (m = n))) ∧ W = w') from by
    have := Same_any u v _ _ W hu hv
    rw [put_same om on hca hcb la lb] at this
    exact this)
  clear hca hcb hm hn om on fa fb la lb
  generalize decide (m = n) = z at *
  generalize putM m = xa at *
  generalize putM n = xb at *
  rcases z with _ | _
  · go_enter Try.func4, Try.ntmps4
    go_upto_region 1 with fail
    rw [HW0.out]
    go_upto_region 3 with (first
      | (go_at_call_of 8 (Value.slice P.x.1 m.x.length P.x.2); refine (HFA.out _ HB0.out).mono ?_; rintro e w1 ⟨rfl, hb⟩; have HB1 := Lib.hid hb; clear hb; obtain ⟨p0, p1, p2, p3, p4, p5, p6, p7, p8, p9, p10, p11, p12, p13, p14, p15, p16, p17, p18, p19, p20, p21, p22, p23⟩ := HK.out _ HB1.out)
      | (go_at_call_of 8 (Value.slice Q.x.1 n.x.length Q.x.2); refine (HFB.out _ (bel2M HB0.out HB1.out)).mono ?_; rintro e w2 ⟨rfl, hb⟩; have HB2 := Lib.hid (bel2M HB1.out hb); clear hb; obtain ⟨p0, p1, p2, p3, p4, p5, p6, p7, p8, p9, p10, p11, p12, p13, p14, p15, p16, p17, p18, p19, p20, p21, p22, p23⟩ := HK.out _ HB2.out)
      | (go_at_call_of 10 (Value.slice P.x.1 m.x.length P.x.2); refine (HCA.out _ (bel2M HB0.out HB2.out)).mono ?_; rintro e w3 ⟨rfl, hb⟩; have HB3 := Lib.hid (bel2M HB2.out hb); clear hb; obtain ⟨p0, p1, p2, p3, p4, p5, p6, p7, p8, p9, p10, p11, p12, p13, p14, p15, p16, p17, p18, p19, p20, p21, p22, p23⟩ := HK.out _ HB3.out)
      | (go_at_call_of 10 (Value.slice Q.x.1 n.x.length Q.x.2); refine (HCB.out _ (bel2M HB0.out HB3.out)).mono ?_; rintro e w4 ⟨rfl, hb⟩; have HB4 := Lib.hid (bel2M HB3.out hb); clear hb; obtain ⟨p0, p1, p2, p3, p4, p5, p6, p7, p8, p9, p10, p11, p12, p13, p14, p15, p16, p17, p18, p19, p20, p21, p22, p23⟩ := HK.out _ HB4.out))
    have HBC := Lib.hid (show Below w0.heap.size w0 w4.drew from HB4.out.drew)
    clear p0 p1 p2 p3 p4 p5 p6 p7 p8 p9 p10 p11 p12 p13 p14 p15 p16 p17 p18 p19 p20 p21 p22 p23
    go_region_held3 (fun W => W.cell? ⟨w.heap.size, 0, none⟩ = some (.int .i64 m.k) ∧ W.cell? ⟨w.heap.size, 1, none⟩ = some (.int .i64 m.v) ∧ W.cell? ⟨w.heap.size, 2, none⟩ = some (.int .i64 m.s) ∧ W.cell? ⟨w.heap.size, 3, none⟩ = some (.int .i64 m.c) ∧ W.cell? ⟨w.heap.size, 4, none⟩ = some (.int .i64 m.t) ∧ W.cell? ⟨w.heap.size, 5, none⟩ = some (.string (strB m.d)) ∧ W.cell? ⟨w.heap.size, 6, none⟩ = some (.slice P.x.1 m.x.length P.x.2) ∧ W.cell? ⟨w.heap.size, 7, none⟩ = some (.int .i64 m.r.1) ∧ W.cell? ⟨w.heap.size, 8, none⟩ = some (.int .i64 m.r.2) ∧ W.cell? ⟨w.heap.size, 9, none⟩ = some (.slice P.b.1 m.b.length P.b.2) ∧ W.cell? ⟨w.heap.size, 10, none⟩ = some (.slice P.p.1 m.p.length P.p.2) ∧ W.cell? ⟨w.heap.size, 11, none⟩ = some (.slice P.q.1 m.q.length P.q.2) ∧ W.cell? ⟨w.heap.size + 1, 0, none⟩ = some (.int .i64 n.k) ∧ W.cell? ⟨w.heap.size + 1, 1, none⟩ = some (.int .i64 n.v) ∧ W.cell? ⟨w.heap.size + 1, 2, none⟩ = some (.int .i64 n.s) ∧ W.cell? ⟨w.heap.size + 1, 3, none⟩ = some (.int .i64 n.c) ∧ W.cell? ⟨w.heap.size + 1, 4, none⟩ = some (.int .i64 n.t) ∧ W.cell? ⟨w.heap.size + 1, 5, none⟩ = some (.string (strB n.d)) ∧ W.cell? ⟨w.heap.size + 1, 6, none⟩ = some (.slice Q.x.1 n.x.length Q.x.2) ∧ W.cell? ⟨w.heap.size + 1, 7, none⟩ = some (.int .i64 n.r.1) ∧ W.cell? ⟨w.heap.size + 1, 8, none⟩ = some (.int .i64 n.r.2) ∧ W.cell? ⟨w.heap.size + 1, 9, none⟩ = some (.slice Q.b.1 n.b.length Q.b.2) ∧ W.cell? ⟨w.heap.size + 1, 10, none⟩ = some (.slice Q.p.1 n.p.length Q.p.2) ∧ W.cell? ⟨w.heap.size + 1, 11, none⟩ = some (.slice Q.q.1 n.q.length Q.q.2)) (first | exact HK.out _ HBC.out) (first
      | (go_at_call_of 9 (Value.slice P.x.1 m.x.length P.x.2); refine (HEA.out _ (bel2M HB0.out HBC.out)).mono ?_; rintro e wx ⟨va, rfl, hoa, hbm⟩; have HVA := Lib.hid (own_bs hoa); replace HBC := Lib.hid (bel2M HBC.out hbm); clear hbm hoa)
      | (go_at_call_of 9 (Value.slice Q.x.1 n.x.length Q.x.2); refine (HEB.out _ (bel2M HB0.out HBC.out)).mono ?_; rintro e wx ⟨vb, rfl, hob, hbm⟩; have HVB := Lib.hid (own_bs hob); replace HVA := Lib.hid (HVA.out.below hbm (Nat.le_refl _)); replace HBC := Lib.hid (bel2M HBC.out hbm); clear hbm hob)
      | (go_at_call 13; refine (HSB0.out _ _ _ HVA.out HVB.out).mono ?_; rintro e wx ⟨rfl, rfl⟩)
      | (go_at_call 12; refine (HSM0.out _ (bel2M HB0.out HBC.out)).mono ?_; rintro e wx ⟨rfl, hbm⟩; replace HBC := Lib.hid (bel2M HBC.out hbm); clear hbm)
      | (go_at_call 14; refine (HW.out _).mono ?_; rintro e wx ⟨rfl, hbm⟩; replace HBC := Lib.hid (bel2M HBC.out hbm); clear hbm))
    go_wp2
    go_ret
    exact ⟨rfl, bel2M HB0.out HBC.out⟩
  · go_enter Try.func4, Try.ntmps4
    go_upto_region 1 with fail
    rw [HW0.out]
    go_upto_region 3 with (first
      | (go_at_call_of 8 (Value.slice P.x.1 m.x.length P.x.2); refine (HFA.out _ HB0.out).mono ?_; rintro e w1 ⟨rfl, hb⟩; have HB1 := Lib.hid hb; clear hb; obtain ⟨p0, p1, p2, p3, p4, p5, p6, p7, p8, p9, p10, p11, p12, p13, p14, p15, p16, p17, p18, p19, p20, p21, p22, p23⟩ := HK.out _ HB1.out)
      | (go_at_call_of 8 (Value.slice Q.x.1 n.x.length Q.x.2); refine (HFB.out _ (bel2M HB0.out HB1.out)).mono ?_; rintro e w2 ⟨rfl, hb⟩; have HB2 := Lib.hid (bel2M HB1.out hb); clear hb; obtain ⟨p0, p1, p2, p3, p4, p5, p6, p7, p8, p9, p10, p11, p12, p13, p14, p15, p16, p17, p18, p19, p20, p21, p22, p23⟩ := HK.out _ HB2.out)
      | (go_at_call_of 10 (Value.slice P.x.1 m.x.length P.x.2); refine (HCA.out _ (bel2M HB0.out HB2.out)).mono ?_; rintro e w3 ⟨rfl, hb⟩; have HB3 := Lib.hid (bel2M HB2.out hb); clear hb; obtain ⟨p0, p1, p2, p3, p4, p5, p6, p7, p8, p9, p10, p11, p12, p13, p14, p15, p16, p17, p18, p19, p20, p21, p22, p23⟩ := HK.out _ HB3.out)
      | (go_at_call_of 10 (Value.slice Q.x.1 n.x.length Q.x.2); refine (HCB.out _ (bel2M HB0.out HB3.out)).mono ?_; rintro e w4 ⟨rfl, hb⟩; have HB4 := Lib.hid (bel2M HB3.out hb); clear hb; obtain ⟨p0, p1, p2, p3, p4, p5, p6, p7, p8, p9, p10, p11, p12, p13, p14, p15, p16, p17, p18, p19, p20, p21, p22, p23⟩ := HK.out _ HB4.out))
    have HBC := Lib.hid (show Below w0.heap.size w0 w4.drew from HB4.out.drew)
    clear p0 p1 p2 p3 p4 p5 p6 p7 p8 p9 p10 p11 p12 p13 p14 p15 p16 p17 p18 p19 p20 p21 p22 p23
    go_region_held3 (fun W => W.cell? ⟨w.heap.size, 0, none⟩ = some (.int .i64 m.k) ∧ W.cell? ⟨w.heap.size, 1, none⟩ = some (.int .i64 m.v) ∧ W.cell? ⟨w.heap.size, 2, none⟩ = some (.int .i64 m.s) ∧ W.cell? ⟨w.heap.size, 3, none⟩ = some (.int .i64 m.c) ∧ W.cell? ⟨w.heap.size, 4, none⟩ = some (.int .i64 m.t) ∧ W.cell? ⟨w.heap.size, 5, none⟩ = some (.string (strB m.d)) ∧ W.cell? ⟨w.heap.size, 6, none⟩ = some (.slice P.x.1 m.x.length P.x.2) ∧ W.cell? ⟨w.heap.size, 7, none⟩ = some (.int .i64 m.r.1) ∧ W.cell? ⟨w.heap.size, 8, none⟩ = some (.int .i64 m.r.2) ∧ W.cell? ⟨w.heap.size, 9, none⟩ = some (.slice P.b.1 m.b.length P.b.2) ∧ W.cell? ⟨w.heap.size, 10, none⟩ = some (.slice P.p.1 m.p.length P.p.2) ∧ W.cell? ⟨w.heap.size, 11, none⟩ = some (.slice P.q.1 m.q.length P.q.2) ∧ W.cell? ⟨w.heap.size + 1, 0, none⟩ = some (.int .i64 n.k) ∧ W.cell? ⟨w.heap.size + 1, 1, none⟩ = some (.int .i64 n.v) ∧ W.cell? ⟨w.heap.size + 1, 2, none⟩ = some (.int .i64 n.s) ∧ W.cell? ⟨w.heap.size + 1, 3, none⟩ = some (.int .i64 n.c) ∧ W.cell? ⟨w.heap.size + 1, 4, none⟩ = some (.int .i64 n.t) ∧ W.cell? ⟨w.heap.size + 1, 5, none⟩ = some (.string (strB n.d)) ∧ W.cell? ⟨w.heap.size + 1, 6, none⟩ = some (.slice Q.x.1 n.x.length Q.x.2) ∧ W.cell? ⟨w.heap.size + 1, 7, none⟩ = some (.int .i64 n.r.1) ∧ W.cell? ⟨w.heap.size + 1, 8, none⟩ = some (.int .i64 n.r.2) ∧ W.cell? ⟨w.heap.size + 1, 9, none⟩ = some (.slice Q.b.1 n.b.length Q.b.2) ∧ W.cell? ⟨w.heap.size + 1, 10, none⟩ = some (.slice Q.p.1 n.p.length Q.p.2) ∧ W.cell? ⟨w.heap.size + 1, 11, none⟩ = some (.slice Q.q.1 n.q.length Q.q.2)) (first | exact HK.out _ HBC.out) (first
      | (go_at_call_of 9 (Value.slice P.x.1 m.x.length P.x.2); refine (HEA.out _ (bel2M HB0.out HBC.out)).mono ?_; rintro e wx ⟨va, rfl, hoa, hbm⟩; have HVA := Lib.hid (own_bs hoa); replace HBC := Lib.hid (bel2M HBC.out hbm); clear hbm hoa)
      | (go_at_call_of 9 (Value.slice Q.x.1 n.x.length Q.x.2); refine (HEB.out _ (bel2M HB0.out HBC.out)).mono ?_; rintro e wx ⟨vb, rfl, hob, hbm⟩; have HVB := Lib.hid (own_bs hob); replace HVA := Lib.hid (HVA.out.below hbm (Nat.le_refl _)); replace HBC := Lib.hid (bel2M HBC.out hbm); clear hbm hob)
      | (go_at_call 13; refine (HSB0.out _ _ _ HVA.out HVB.out).mono ?_; rintro e wx ⟨rfl, rfl⟩)
      | (go_at_call 12; refine (HSM0.out _ (bel2M HB0.out HBC.out)).mono ?_; rintro e wx ⟨rfl, hbm⟩; replace HBC := Lib.hid (bel2M HBC.out hbm); clear hbm)
      | (go_at_call 14; refine (HW.out _).mono ?_; rintro e wx ⟨rfl, hbm⟩; replace HBC := Lib.hid (bel2M HBC.out hbm); clear hbm))
    go_wp2
    go_ret
    exact ⟨rfl, bel2M HB0.out HBC.out⟩
end Go.Proofs.Ytjekpchcbbiohaa
