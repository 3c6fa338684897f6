/- Layer 4: ValueFloats. (Made by gen/genvfloats.py.) -/
import Derived.Test.YtlnpolepgdoloaaVTwo
namespace Go.Proofs.Ytlnpolepgdoloaa
open Go.RowKit
set_option linter.unusedVariables false
set_option linter.unusedSimpArgs false
set_option maxRecDepth 20000

theorem flO_nan (x y : Nat) (h : (nanB x || nanB y) = true) : flO x y = none := by
  show FloatKind.f64.format.order x y = none
  rw [flOrder_nan, h, if_pos rfl]
theorem read_nan (x : Nat) (h : nanB x = true) : ∃ s t, FloatKind.f64.format.read x = .nan s t := by
  rw [nanB_iff] at h
  have h' : flInf < flRng x := by simpa using h
  rw [flRead_eq, if_neg (by omega), if_neg (by omega)]
  exact ⟨_, _, rfl⟩
theorem add_nan (x y : Nat) (h : (nanB x || nanB y) = true) : flRes .add x y = 9221120237041090561 := by
  have hn : floatBits .add .f64 x y = none := by
    show FloatKind.f64.format.add x y = none
    unfold Ieee.Format.add
    rw [Bool.or_eq_true] at h
    rcases h with h | h
    · obtain ⟨s, t, e⟩ := read_nan x h
      rw [e]; rfl
    · obtain ⟨s, t, e⟩ := read_nan y h
      rw [e]
      cases FloatKind.f64.format.read x <;> rfl
  unfold flRes; rw [hn]
/-- of two numbers just one holds -/
theorem flO_three (x y : Nat) (h : (nanB x || nanB y) = false) : (flO x y == some .eq) = true ∧ (flO x y == some .lt) = false ∧ (flO y x == some .lt) = false ∨ (flO x y == some .eq) = false ∧ (flO x y == some .lt) = true ∧ (flO y x == some .lt) = false ∨ (flO x y == some .eq) = false ∧ (flO x y == some .lt) = false ∧ (flO y x == some .lt) = true := by
  have h2 : (nanB y || nanB x) = false := by rw [Bool.or_comm]; exact h
  have e1 : flO x y = some (compare (flKey x) (flKey y)) := by
    show FloatKind.f64.format.order x y = _
    rw [flOrder_nan, h]; rfl
  have e2 : flO y x = some (compare (flKey y) (flKey x)) := by
    show FloatKind.f64.format.order y x = _
    rw [flOrder_nan, h2]; rfl
  rw [e1, e2, flCmp_int, flCmp_int]
  rcases Int.lt_trichotomy (flKey x) (flKey y) with g | g | g
  · right; left
    rw [if_pos g, if_neg (by omega), if_neg (by omega)]; exact ⟨rfl, rfl, rfl⟩
  · left
    rw [if_neg (by omega), if_pos g, if_neg (by omega), if_pos g.symm]; exact ⟨rfl, rfl, rfl⟩
  · right; right
    rw [if_neg (by omega), if_neg (by omega), if_pos g]; exact ⟨rfl, rfl, rfl⟩
theorem numW_num {x : Nat} (h : nanB x = false) : numW x = x := by unfold numW; rw [h]; rfl
theorem numW_nan2 {x : Nat} (h : nanB x = true) : nanB (numW x) = true := by rw [(numW_eq_nan x).2 h]; exact nan_bits
theorem nan_numW (x : Nat) : nanB (numW x) = nanB x := by
  rcases h : nanB x with _ | _
  · rw [numW_num h, h]
  · exact numW_nan2 h

set_option maxHeartbeats 8000000 in
theorem ValueFloats_any (x y : Nat) (w : World) (hx : x < 18446744073709551616) (hy : y < 18446744073709551616) : Calls Try.prog 10 #[.float .f64 x, .float .f64 y] w (VMk (.bool true) w) := by
  have hsf := fun (w : World) (a : Addr) (m : Mode) (b : Nat) => run_store Try.prog w a (.float .f64 b) m rfl
  have hX := vNumW_lt x hx
  have hY := vNumW_lt y hy
  have n1 : ∀ W, Calls Try.prog 40 #[.float .f64 x] W (VMk (agV (vNum (numW x))) W) := rNumV_any x
  have n2 : ∀ W, Calls Try.prog 40 #[.float .f64 y] W (VMk (agV (vNum (numW y))) W) := rNumV_any y
  have e1 : ∀ W, Calls Try.prog 22 #[agV (vNum (numW x)), agV (vNum (numW y))] W (VMk (pairBE (flO (numW x) (numW y) == some .eq) 0) W) := fun W => by have h := Equal_val (vNum (numW x)) (vNum (numW y)) W; rwa [eq_num] at h
  have e2 : ∀ W, Calls Try.prog 24 #[agV (vNum (numW x)), agV (vNum (numW y))] W (VMk (pairBE (flO (numW x) (numW y) == some .lt) 0) W) := fun W => by have h := Less_val (vNum (numW x)) (vNum (numW y)) W hX hY; rwa [lt_num] at h
  have e3 : ∀ W, Calls Try.prog 24 #[agV (vNum (numW y)), agV (vNum (numW x))] W (VMk (pairBE (flO (numW y) (numW x) == some .lt) 0) W) := fun W => by have h := Less_val (vNum (numW y)) (vNum (numW x)) W hY hX; rwa [lt_num] at h
  have e4 : ∀ W, Calls Try.prog 26 #[.int .i64 4, agV (vNum (numW x)), agV (vNum (numW y))] W (VMk (pairVE (vNum (flRes .add (numW x) (numW y))) 0) W) := fun W => by
    have h := Reckon_any 4 (vNum (numW x)) (vNum (numW y)) W (show in64 0 by decide) (show in64 0 by decide) hX hY
    have hr : reckV 4 (vNum (numW x)) (vNum (numW y)) = (vNum (flRes .add (numW x) (numW y)), 0) := by unfold reckV; rw [like_num]; rfl
    rwa [hr] at h
  clear hX hY hx hy
  rcases hn : (nanB x || nanB y) with _ | _
  case true =>
    have hn2 : (nanB (numW x) || nanB (numW y)) = true := by rw [nan_numW, nan_numW]; exact hn
    have hn3 : (nanB (numW y) || nanB (numW x)) = true := by rw [Bool.or_comm]; exact hn2
    rw [flO_nan _ _ hn2] at e1 e2
    rw [flO_nan _ _ hn3] at e3
    rw [add_nan _ _ hn2] at e4
    have hs0 : (FloatKind.f64.format.order 9221120237041090561 9221120237041090561 != some .eq) = true := nan_bits
    have e1 : ∀ W, Calls Try.prog 22 #[agV (vNum (numW x)), agV (vNum (numW y))] W (VMk (pairBE false 0) W) := e1
    have e2 : ∀ W, Calls Try.prog 24 #[agV (vNum (numW x)), agV (vNum (numW y))] W (VMk (pairBE false 0) W) := e2
    have e3 : ∀ W, Calls Try.prog 24 #[agV (vNum (numW y)), agV (vNum (numW x))] W (VMk (pairBE false 0) W) := e3
    have hxy : (FloatKind.f64.format.order x x != some .eq) = true ∨ ((FloatKind.f64.format.order x x != some .eq) = false ∧ (FloatKind.f64.format.order y y != some .eq) = true) := by
      rw [Bool.or_eq_true] at hn
      rcases hb : nanB x with _ | _
      · right; exact ⟨hb, hn.resolve_left (by rw [hb]; decide)⟩
      · left; exact hb
    clear hn hn2 hn3
    generalize (9221120237041090561 : Nat) = s at *
    generalize numW x = p at *
    generalize numW y = q at *
    rcases hxy with hx1 | ⟨hx1, hy1⟩
    · skip
      have N1 := Lib.hid n1
      have N2 := Lib.hid n2
      have E1 := Lib.hid e1
      have E2 := Lib.hid e2
      have E3 := Lib.hid e3
      have E4 := Lib.hid e4
      clear n1 n2 e1 e2 e3 e4
      go_enter Try.func10, Try.ntmps10
      go_wp2_with fail
      refine (N1.out _).mono ?_
      rintro e w1 ⟨rfl, hb1⟩
      go_wp2_with fail
      refine (N2.out _).mono ?_
      rintro e w2 ⟨rfl, hb2⟩
      have B2 := hb1.trans (hb2.mono hb1.size)
      go_upto_region 2 with fail
      have F1 := Lib.hid ((Bx.new w2 (vNum p)).alloc (bxO (vNum q)))
      have F2 : Bx ((w2.alloc (bxO (vNum p))).alloc (bxO (vNum q))) (w2.heap.size + 1) (vNum q) := by
        have h := Bx.new (w2.alloc (bxO (vNum p))) (vNum q)
        simpa using h
      have F2 := Lib.hid F2
      have F3 := Lib.hid ((B2.alloc B2.size (bxO (vNum p))).alloc (by have := B2.size; simp; omega) (bxO (vNum q)))
      clear B2 hb1 hb2 N1 N2
      generalize (w2.alloc (bxO (vNum p))).alloc (bxO (vNum q)) = wc at *
      generalize w2.heap.size + 1 = b2 at *
      generalize w2.heap.size = b1 at *
      obtain ⟨a0, a1, a2, a3, a4⟩ := F1.out
      obtain ⟨c0, c1, c2, c3, c4⟩ := F2.out
      go_wp2_with fail
      refine (E1.out _).mono ?_
      rintro e wd ⟨rfl, hb⟩
      clear a0 a1 a2 a3 a4 c0 c1 c2 c3 c4
      have F1 := Lib.hid (F1.out.below hb)
      have F2 := Lib.hid (F2.out.below hb)
      have F3 := Lib.hid (F3.out.trans (hb.mono F3.out.size))
      clear hb
      obtain ⟨a0, a1, a2, a3, a4⟩ := F1.out
      obtain ⟨c0, c1, c2, c3, c4⟩ := F2.out
      go_wp2_with fail
      refine (E2.out _).mono ?_
      rintro e we ⟨rfl, hb⟩
      clear a0 a1 a2 a3 a4 c0 c1 c2 c3 c4
      have F1 := Lib.hid (F1.out.below hb)
      have F2 := Lib.hid (F2.out.below hb)
      have F3 := Lib.hid (F3.out.trans (hb.mono F3.out.size))
      clear hb
      obtain ⟨a0, a1, a2, a3, a4⟩ := F1.out
      obtain ⟨c0, c1, c2, c3, c4⟩ := F2.out
      go_wp2_with fail
      refine (E3.out _).mono ?_
      rintro e wf ⟨rfl, hb⟩
      clear a0 a1 a2 a3 a4 c0 c1 c2 c3 c4
      have F1 := Lib.hid (F1.out.below hb)
      have F2 := Lib.hid (F2.out.below hb)
      have F3 := Lib.hid (F3.out.trans (hb.mono F3.out.size))
      clear hb
      obtain ⟨a0, a1, a2, a3, a4⟩ := F1.out
      obtain ⟨c0, c1, c2, c3, c4⟩ := F2.out
      go_wp2_with fail
      refine (E4.out _).mono ?_
      rintro e wg ⟨rfl, hb⟩
      clear a0 a1 a2 a3 a4 c0 c1 c2 c3 c4
      have F3 := Lib.hid (F3.out.trans (hb.mono F3.out.size))
      clear hb
      go_upto_region 6 with fail
      have F4 := Lib.hid (Bx.new wg (vNum s))
      have F3 := Lib.hid (F3.out.alloc F3.out.size (bxO (vNum s)))
      generalize wg.alloc (bxO (vNum s)) = wh at *
      generalize wg.heap.size = b3 at *
      obtain ⟨a0, a1, a2, a3, a4⟩ := F4.out
      go_wp2_with fail
      refine (awake4_any _).mono ?_
      rintro e wi ⟨rfl, hb⟩
      have F3 := Lib.hid (F3.out.trans (hb.mono F3.out.size))
      clear hb a0 a1 a2 a3 a4
      go_wp2
      go_ret
      exact ⟨rfl, F3.out⟩
    · skip
      have N1 := Lib.hid n1
      have N2 := Lib.hid n2
      have E1 := Lib.hid e1
      have E2 := Lib.hid e2
      have E3 := Lib.hid e3
      have E4 := Lib.hid e4
      clear n1 n2 e1 e2 e3 e4
      go_enter Try.func10, Try.ntmps10
      go_wp2_with fail
      refine (N1.out _).mono ?_
      rintro e w1 ⟨rfl, hb1⟩
      go_wp2_with fail
      refine (N2.out _).mono ?_
      rintro e w2 ⟨rfl, hb2⟩
      have B2 := hb1.trans (hb2.mono hb1.size)
      go_upto_region 2 with fail
      have F1 := Lib.hid ((Bx.new w2 (vNum p)).alloc (bxO (vNum q)))
      have F2 : Bx ((w2.alloc (bxO (vNum p))).alloc (bxO (vNum q))) (w2.heap.size + 1) (vNum q) := by
        have h := Bx.new (w2.alloc (bxO (vNum p))) (vNum q)
        simpa using h
      have F2 := Lib.hid F2
      have F3 := Lib.hid ((B2.alloc B2.size (bxO (vNum p))).alloc (by have := B2.size; simp; omega) (bxO (vNum q)))
      clear B2 hb1 hb2 N1 N2
      generalize (w2.alloc (bxO (vNum p))).alloc (bxO (vNum q)) = wc at *
      generalize w2.heap.size + 1 = b2 at *
      generalize w2.heap.size = b1 at *
      obtain ⟨a0, a1, a2, a3, a4⟩ := F1.out
      obtain ⟨c0, c1, c2, c3, c4⟩ := F2.out
      go_wp2_with fail
      refine (E1.out _).mono ?_
      rintro e wd ⟨rfl, hb⟩
      clear a0 a1 a2 a3 a4 c0 c1 c2 c3 c4
      have F1 := Lib.hid (F1.out.below hb)
      have F2 := Lib.hid (F2.out.below hb)
      have F3 := Lib.hid (F3.out.trans (hb.mono F3.out.size))
      clear hb
      obtain ⟨a0, a1, a2, a3, a4⟩ := F1.out
      obtain ⟨c0, c1, c2, c3, c4⟩ := F2.out
      go_wp2_with fail
      refine (E2.out _).mono ?_
      rintro e we ⟨rfl, hb⟩
      clear a0 a1 a2 a3 a4 c0 c1 c2 c3 c4
      have F1 := Lib.hid (F1.out.below hb)
      have F2 := Lib.hid (F2.out.below hb)
      have F3 := Lib.hid (F3.out.trans (hb.mono F3.out.size))
      clear hb
      obtain ⟨a0, a1, a2, a3, a4⟩ := F1.out
      obtain ⟨c0, c1, c2, c3, c4⟩ := F2.out
      go_wp2_with fail
      refine (E3.out _).mono ?_
      rintro e wf ⟨rfl, hb⟩
      clear a0 a1 a2 a3 a4 c0 c1 c2 c3 c4
      have F1 := Lib.hid (F1.out.below hb)
      have F2 := Lib.hid (F2.out.below hb)
      have F3 := Lib.hid (F3.out.trans (hb.mono F3.out.size))
      clear hb
      obtain ⟨a0, a1, a2, a3, a4⟩ := F1.out
      obtain ⟨c0, c1, c2, c3, c4⟩ := F2.out
      go_wp2_with fail
      refine (E4.out _).mono ?_
      rintro e wg ⟨rfl, hb⟩
      clear a0 a1 a2 a3 a4 c0 c1 c2 c3 c4
      have F3 := Lib.hid (F3.out.trans (hb.mono F3.out.size))
      clear hb
      go_upto_region 6 with fail
      have F4 := Lib.hid (Bx.new wg (vNum s))
      have F3 := Lib.hid (F3.out.alloc F3.out.size (bxO (vNum s)))
      generalize wg.alloc (bxO (vNum s)) = wh at *
      generalize wg.heap.size = b3 at *
      obtain ⟨a0, a1, a2, a3, a4⟩ := F4.out
      go_wp2_with fail
      refine (awake4_any _).mono ?_
      rintro e wi ⟨rfl, hb⟩
      have F3 := Lib.hid (F3.out.trans (hb.mono F3.out.size))
      clear hb a0 a1 a2 a3 a4
      go_wp2
      go_ret
      exact ⟨rfl, F3.out⟩
  have h2 := hn
  rw [Bool.or_eq_false_iff] at h2
  obtain ⟨hx1, hy1⟩ := h2
  have hx1' : (FloatKind.f64.format.order x x != some .eq) = false := hx1
  have hy1' : (FloatKind.f64.format.order y y != some .eq) = false := hy1
  have hthree := flO_three x y hn
  rw [numW_num hx1, numW_num hy1] at e1 e2 e3 e4
  rw [numW_num hx1] at n1
  rw [numW_num hy1] at n2
  generalize flRes .add x y = s at *
  clear hn hx1 hy1
  obtain ⟨p, hp⟩ : ∃ p, p = x := ⟨x, rfl⟩
  obtain ⟨q, hq⟩ : ∃ q, q = y := ⟨y, rfl⟩
  subst hp hq
  rcases hthree with ⟨t1, t2, t3⟩ | ⟨t1, t2, t3⟩ | ⟨t1, t2, t3⟩
  all_goals
    rw [t1] at e1
    rw [t2] at e2
    rw [t3] at e3
    have t1' : (FloatKind.f64.format.order p q == some .eq) = _ := t1
    have t2' : (FloatKind.f64.format.order p q == some .lt) = _ := t2
    clear t1 t2 t3
    have N1 := Lib.hid n1
    have N2 := Lib.hid n2
    have E1 := Lib.hid e1
    have E2 := Lib.hid e2
    have E3 := Lib.hid e3
    have E4 := Lib.hid e4
    clear n1 n2 e1 e2 e3 e4
    go_enter Try.func10, Try.ntmps10
    go_wp2_with fail
    refine (N1.out _).mono ?_
    rintro e w1 ⟨rfl, hb1⟩
    go_wp2_with fail
    refine (N2.out _).mono ?_
    rintro e w2 ⟨rfl, hb2⟩
    have B2 := hb1.trans (hb2.mono hb1.size)
    go_upto_region 2 with fail
    have F1 := Lib.hid ((Bx.new w2 (vNum p)).alloc (bxO (vNum q)))
    have F2 : Bx ((w2.alloc (bxO (vNum p))).alloc (bxO (vNum q))) (w2.heap.size + 1) (vNum q) := by
      have h := Bx.new (w2.alloc (bxO (vNum p))) (vNum q)
      simpa using h
    have F2 := Lib.hid F2
    have F3 := Lib.hid ((B2.alloc B2.size (bxO (vNum p))).alloc (by have := B2.size; simp; omega) (bxO (vNum q)))
    clear B2 hb1 hb2 N1 N2
    generalize (w2.alloc (bxO (vNum p))).alloc (bxO (vNum q)) = wc at *
    generalize w2.heap.size + 1 = b2 at *
    generalize w2.heap.size = b1 at *
    obtain ⟨a0, a1, a2, a3, a4⟩ := F1.out
    obtain ⟨c0, c1, c2, c3, c4⟩ := F2.out
    go_wp2_with fail
    refine (E1.out _).mono ?_
    rintro e wd ⟨rfl, hb⟩
    clear a0 a1 a2 a3 a4 c0 c1 c2 c3 c4
    have F1 := Lib.hid (F1.out.below hb)
    have F2 := Lib.hid (F2.out.below hb)
    have F3 := Lib.hid (F3.out.trans (hb.mono F3.out.size))
    clear hb
    obtain ⟨a0, a1, a2, a3, a4⟩ := F1.out
    obtain ⟨c0, c1, c2, c3, c4⟩ := F2.out
    go_wp2_with fail
    refine (E2.out _).mono ?_
    rintro e we ⟨rfl, hb⟩
    clear a0 a1 a2 a3 a4 c0 c1 c2 c3 c4
    have F1 := Lib.hid (F1.out.below hb)
    have F2 := Lib.hid (F2.out.below hb)
    have F3 := Lib.hid (F3.out.trans (hb.mono F3.out.size))
    clear hb
    obtain ⟨a0, a1, a2, a3, a4⟩ := F1.out
    obtain ⟨c0, c1, c2, c3, c4⟩ := F2.out
    go_wp2_with fail
    refine (E3.out _).mono ?_
    rintro e wf ⟨rfl, hb⟩
    clear a0 a1 a2 a3 a4 c0 c1 c2 c3 c4
    have F1 := Lib.hid (F1.out.below hb)
    have F2 := Lib.hid (F2.out.below hb)
    have F3 := Lib.hid (F3.out.trans (hb.mono F3.out.size))
    clear hb
    obtain ⟨a0, a1, a2, a3, a4⟩ := F1.out
    obtain ⟨c0, c1, c2, c3, c4⟩ := F2.out
    go_wp2_with fail
    refine (E4.out _).mono ?_
    rintro e wg ⟨rfl, hb⟩
    clear a0 a1 a2 a3 a4 c0 c1 c2 c3 c4
    have F3 := Lib.hid (F3.out.trans (hb.mono F3.out.size))
    clear hb
    go_upto_region 6 with fail
    have F4 := Lib.hid (Bx.new wg (vNum s))
    have F3 := Lib.hid (F3.out.alloc F3.out.size (bxO (vNum s)))
    generalize wg.alloc (bxO (vNum s)) = wh at *
    generalize wg.heap.size = b3 at *
    obtain ⟨a0, a1, a2, a3, a4⟩ := F4.out
    go_wp2_with fail
    refine (awake4_any _).mono ?_
    rintro e wi ⟨rfl, hb⟩
    have F3 := Lib.hid (F3.out.trans (hb.mono F3.out.size))
    clear hb a0 a1 a2 a3 a4
    go_wp2
    go_ret
    exact ⟨rfl, F3.out⟩
end Go.Proofs.Ytlnpolepgdoloaa
