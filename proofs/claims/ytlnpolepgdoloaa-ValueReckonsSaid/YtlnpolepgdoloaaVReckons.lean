/- Layer 4: ValueReckons. (Made by gen/genvreckons.py.) -/
import Derived.Test.YtlnpolepgdoloaaVTwo
import Derived.Test.YtlnpolepgdoloaaVRReck
import Derived.Test.YtlnpolepgdoloaaVRNeg
namespace Go.Proofs.Ytlnpolepgdoloaa
open Go.RowKit
set_option linter.unusedVariables false
set_option linter.unusedSimpArgs false
set_option maxRecDepth 20000

theorem sameV_refl (v : Vl) : sameV v v = true := by unfold sameV; simp
set_option maxHeartbeats 8000000 in
theorem ValueReckons_any (op : Int) (a c : Vl) (w : World) (hia : in64 a.i) (hic : in64 c.i) (hna : a.n < 18446744073709551616) (hnc : c.n < 18446744073709551616) : Calls Try.prog 6 #[.int .i64 op, agV a, agV c] w (VMk (.bool true) w) := by
  have hsf := fun (w : World) (a : Addr) (m : Mode) (b : Nat) => run_store Try.prog w a (.float .f64 b) m rfl
  have e1 : ∀ W, Calls Try.prog 26 #[.int .i64 op, agV a, agV c] W (VMk (pairVE (reckV op a c).1 (reckV op a c).2) W) := fun W => Reckon_any op a c W hia hic hna hnc
  have e2 : ∀ W, Calls Try.prog 27 #[.int .i64 op, agV a, agV c] W (VMk (pairVE (reckV op a c).1 (reckV op a c).2) W) := fun W => rReckon_any op a c W hia hic hna hnc
  have e3 : ∀ W, Calls Try.prog 28 #[agV a] W (VMk (pairVE (negV a).1 (negV a).2) W) := fun W => Neg_any a W hia
  have e4 : ∀ W, Calls Try.prog 29 #[agV a] W (VMk (pairVE (negV a).1 (negV a).2) W) := fun W => rNeg_any a W hia
  have e5 : ∀ W, Calls Try.prog 30 #[agV a] W (VMk (pairVE (floatV a).1 (floatV a).2) W) := fun W => Float_any a W
  have e6 : ∀ W, Calls Try.prog 31 #[agV a] W (VMk (pairVE (floatV a).1 (floatV a).2) W) := fun W => rFloat_any a W
  clear hia hic hna hnc
  generalize reckV op a c = p at e1 e2
  generalize negV a = q at e3 e4
  generalize floatV a = r at e5 e6
  obtain ⟨u, eu⟩ := p
  obtain ⟨x, ex⟩ := q
  obtain ⟨y, ey⟩ := r
  have s1 : ∀ W, Calls Try.prog 21 #[agV u, agV u] W (VMk (.bool true) W) := fun W => by have h := rSame_val u u W; rwa [sameV_refl] at h
  have s2 : ∀ W, Calls Try.prog 21 #[agV x, agV x] W (VMk (.bool true) W) := fun W => by have h := rSame_val x x W; rwa [sameV_refl] at h
  have s3 : ∀ W, Calls Try.prog 21 #[agV y, agV y] W (VMk (.bool true) W) := fun W => by have h := rSame_val y y W; rwa [sameV_refl] at h
  have hs := short2 w a c
  obtain ⟨f1, f2, f3⟩ := W2s_facts w a c
  have E1 := Lib.hid e1
  have E2 := Lib.hid e2
  have E3 := Lib.hid e3
  have E4 := Lib.hid e4
  have E5 := Lib.hid e5
  have E6 := Lib.hid e6
  have S1 := Lib.hid s1
  have S2 := Lib.hid s2
  have S3 := Lib.hid s3
  have F1 := Lib.hid f1
  have F2 := Lib.hid f2
  have F3 := Lib.hid f3
  clear e1 e2 e3 e4 e5 e6 s1 s2 s3 f1 f2 f3
  rcases hsh : shortS [a.s, c.s] with _ | _
  · rw [hsh] at hs
    have HS := Lib.hid hs
    clear hs hsh
    go_enter Try.func6, Try.ntmps6
    go_wp2_with fail
    refine HS.out.mono ?_
    rintro e w' ⟨rfl, rfl⟩
    go_wp2
    go_ret
    exact ⟨rfl, F3.out⟩
  · rw [hsh] at hs
    have HS := Lib.hid hs
    clear hs hsh
    go_enter Try.func6, Try.ntmps6
    go_wp2_with fail
    refine HS.out.mono ?_
    rintro e w' ⟨rfl, rfl⟩
    generalize W2s w a c = wc at *
    clear HS
    obtain ⟨a0, a1, a2, a3, a4⟩ := F1.out
    obtain ⟨c0, c1, c2, c3, c4⟩ := F2.out
    go_wp2_with fail
    refine (E1.out _).mono ?_
    rintro e wd ⟨rfl, hb⟩
    clear a0 a1 a2 a3 a4 c0 c1 c2 c3 c4
    go_upto_region 4 with fail
    have F1 := Lib.hid ((F1.out.below hb).alloc (bxO u))
    have F2 := Lib.hid ((F2.out.below hb).alloc (bxO u))
    have F3 := Lib.hid ((F3.out.trans (hb.mono F3.out.size)).alloc (F3.out.trans (hb.mono F3.out.size)).size (bxO u))
    have G1 := Lib.hid (Bx.new wd u)
    clear hb
    generalize wd.alloc (bxO u) = we at *
    generalize wd.heap.size = b1 at *
    obtain ⟨a0, a1, a2, a3, a4⟩ := F1.out
    obtain ⟨c0, c1, c2, c3, c4⟩ := F2.out
    go_wp2_with fail
    refine (E2.out _).mono ?_
    rintro e wf ⟨rfl, hb⟩
    clear a0 a1 a2 a3 a4 c0 c1 c2 c3 c4
    go_upto_region 5 with fail
    have F1 := Lib.hid ((F1.out.below hb).alloc (bxO u))
    have F2 := Lib.hid ((F2.out.below hb).alloc (bxO u))
    have G1 := Lib.hid ((G1.out.below hb).alloc (bxO u))
    have F3 := Lib.hid ((F3.out.trans (hb.mono F3.out.size)).alloc (F3.out.trans (hb.mono F3.out.size)).size (bxO u))
    have G2 := Lib.hid (Bx.new wf u)
    clear hb
    generalize wf.alloc (bxO u) = wg at *
    generalize wf.heap.size = b2 at *
    obtain ⟨a0, a1, a2, a3, a4⟩ := F1.out
    go_wp2_with fail
    refine (E3.out _).mono ?_
    rintro e wh ⟨rfl, hb⟩
    clear a0 a1 a2 a3 a4
    go_upto_region 6 with fail
    have F1 := Lib.hid ((F1.out.below hb).alloc (bxO x))
    have F2 := Lib.hid ((F2.out.below hb).alloc (bxO x))
    have G1 := Lib.hid ((G1.out.below hb).alloc (bxO x))
    have G2 := Lib.hid ((G2.out.below hb).alloc (bxO x))
    have F3 := Lib.hid ((F3.out.trans (hb.mono F3.out.size)).alloc (F3.out.trans (hb.mono F3.out.size)).size (bxO x))
    have G3 := Lib.hid (Bx.new wh x)
    clear hb
    generalize wh.alloc (bxO x) = wi at *
    generalize wh.heap.size = b3 at *
    obtain ⟨a0, a1, a2, a3, a4⟩ := F1.out
    go_wp2_with fail
    refine (E4.out _).mono ?_
    rintro e wj ⟨rfl, hb⟩
    clear a0 a1 a2 a3 a4
    go_upto_region 7 with fail
    have F1 := Lib.hid ((F1.out.below hb).alloc (bxO x))
    have F2 := Lib.hid ((F2.out.below hb).alloc (bxO x))
    have G1 := Lib.hid ((G1.out.below hb).alloc (bxO x))
    have G2 := Lib.hid ((G2.out.below hb).alloc (bxO x))
    have G3 := Lib.hid ((G3.out.below hb).alloc (bxO x))
    have F3 := Lib.hid ((F3.out.trans (hb.mono F3.out.size)).alloc (F3.out.trans (hb.mono F3.out.size)).size (bxO x))
    have G4 := Lib.hid (Bx.new wj x)
    clear hb
    generalize wj.alloc (bxO x) = wk at *
    generalize wj.heap.size = b4 at *
    obtain ⟨a0, a1, a2, a3, a4⟩ := F1.out
    go_wp2_with fail
    refine (E5.out _).mono ?_
    rintro e wl ⟨rfl, hb⟩
    clear a0 a1 a2 a3 a4
    go_upto_region 8 with fail
    have F1 := Lib.hid ((F1.out.below hb).alloc (bxO y))
    have F2 := Lib.hid ((F2.out.below hb).alloc (bxO y))
    have G1 := Lib.hid ((G1.out.below hb).alloc (bxO y))
    have G2 := Lib.hid ((G2.out.below hb).alloc (bxO y))
    have G3 := Lib.hid ((G3.out.below hb).alloc (bxO y))
    have G4 := Lib.hid ((G4.out.below hb).alloc (bxO y))
    have F3 := Lib.hid ((F3.out.trans (hb.mono F3.out.size)).alloc (F3.out.trans (hb.mono F3.out.size)).size (bxO y))
    have G5 := Lib.hid (Bx.new wl y)
    clear hb
    generalize wl.alloc (bxO y) = wm at *
    generalize wl.heap.size = b5 at *
    obtain ⟨a0, a1, a2, a3, a4⟩ := F1.out
    go_wp2_with fail
    refine (E6.out _).mono ?_
    rintro e wn ⟨rfl, hb⟩
    clear a0 a1 a2 a3 a4
    go_upto_region 9 with fail
    have F1 := Lib.hid ((F1.out.below hb).alloc (bxO y))
    have F2 := Lib.hid ((F2.out.below hb).alloc (bxO y))
    have G1 := Lib.hid ((G1.out.below hb).alloc (bxO y))
    have G2 := Lib.hid ((G2.out.below hb).alloc (bxO y))
    have G3 := Lib.hid ((G3.out.below hb).alloc (bxO y))
    have G4 := Lib.hid ((G4.out.below hb).alloc (bxO y))
    have G5 := Lib.hid ((G5.out.below hb).alloc (bxO y))
    have F3 := Lib.hid ((F3.out.trans (hb.mono F3.out.size)).alloc (F3.out.trans (hb.mono F3.out.size)).size (bxO y))
    have G6 := Lib.hid (Bx.new wn y)
    clear hb
    generalize wn.alloc (bxO y) = wo at *
    generalize wn.heap.size = b6 at *
    obtain ⟨g10, g11, g12, g13, g14⟩ := G1.out
    obtain ⟨g20, g21, g22, g23, g24⟩ := G2.out
    go_wp2_with fail
    refine (S1.out _).mono ?_
    rintro e wp ⟨rfl, hb⟩
    clear g10 g11 g12 g13 g14 g20 g21 g22 g23 g24
    have G1 := Lib.hid (G1.out.below hb)
    have G2 := Lib.hid (G2.out.below hb)
    have G3 := Lib.hid (G3.out.below hb)
    have G4 := Lib.hid (G4.out.below hb)
    have G5 := Lib.hid (G5.out.below hb)
    have G6 := Lib.hid (G6.out.below hb)
    have F3 := Lib.hid (F3.out.trans (hb.mono F3.out.size))
    clear hb
    obtain ⟨g30, g31, g32, g33, g34⟩ := G3.out
    obtain ⟨g40, g41, g42, g43, g44⟩ := G4.out
    go_wp2_with fail
    refine (S2.out _).mono ?_
    rintro e wq ⟨rfl, hb⟩
    clear g30 g31 g32 g33 g34 g40 g41 g42 g43 g44
    have G1 := Lib.hid (G1.out.below hb)
    have G2 := Lib.hid (G2.out.below hb)
    have G3 := Lib.hid (G3.out.below hb)
    have G4 := Lib.hid (G4.out.below hb)
    have G5 := Lib.hid (G5.out.below hb)
    have G6 := Lib.hid (G6.out.below hb)
    have F3 := Lib.hid (F3.out.trans (hb.mono F3.out.size))
    clear hb
    obtain ⟨g50, g51, g52, g53, g54⟩ := G5.out
    obtain ⟨g60, g61, g62, g63, g64⟩ := G6.out
    go_wp2_with fail
    refine (S3.out _).mono ?_
    rintro e wr ⟨rfl, hb⟩
    clear g50 g51 g52 g53 g54 g60 g61 g62 g63 g64
    have G1 := Lib.hid (G1.out.below hb)
    have G2 := Lib.hid (G2.out.below hb)
    have G3 := Lib.hid (G3.out.below hb)
    have G4 := Lib.hid (G4.out.below hb)
    have G5 := Lib.hid (G5.out.below hb)
    have G6 := Lib.hid (G6.out.below hb)
    have F3 := Lib.hid (F3.out.trans (hb.mono F3.out.size))
    clear hb
    go_wp2_with fail
    refine (awake4_any _).mono ?_
    rintro e wz ⟨rfl, hb⟩
    have F3 := Lib.hid (F3.out.trans (hb.mono F3.out.size))
    clear hb
    go_wp2
    go_ret
    exact ⟨rfl, F3.out⟩
end Go.Proofs.Ytlnpolepgdoloaa
