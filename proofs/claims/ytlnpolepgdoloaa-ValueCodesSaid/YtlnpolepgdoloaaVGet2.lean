/- Layer 4: Get by the program. -/
import Derived.Test.YtlnpolepgdoloaaVGet
import Derived.Test.YtlnpolepgdoloaaVOf
import Derived.Test.YtlnpolepgdoloaaVShort
import Derived.Deep.CutRange
namespace Go.Proofs.Ytlnpolepgdoloaa
open Go.RowKit
set_option linter.unusedVariables false
set_option linter.unusedSimpArgs false
set_option maxRecDepth 20000

/-- what Get answers -/
def GetP (g : Nat) (v : Vl) (er : Int) (rest : List UInt8) (err : Int) (w : World) (e : Ending) (w' : World) : Prop := e = .returned (pairVE v er) ∧ RdR w' g rest err ∧ Only g w w'
theorem GetP.mk {g N : Nat} {v : Vl} {er : Int} {rest : List UInt8} {err : Int} {w wB : World} {cs : Array Value} {fr : Nat × Nat} (hN : N = w.heap.size) (hr : RdR wB g rest err) (ho : Only g w wB) (hg : g < w.heap.size) (hb : wB.heap[N]? = some (.cells cs 24 fr)) (u0 u1 u2 u3 u4 : Value) :
    GetP g v er rest err w (.returned (pairVE v er)) (((((wB.setCell ⟨N, 0, none⟩ u0).setCell ⟨N, 1, none⟩ u1).setCell ⟨N, 2, none⟩ u2).setCell ⟨N, 3, none⟩ u3).setCell ⟨N, 4, none⟩ u4) := by
  subst hN
  exact ⟨rfl, hr.off (only_self5 _ _ _ _ _ _ _) (by omega) hb, ho.set5 (Nat.le_refl _) _ _ _ _ _⟩
theorem read_kind (rest : List UInt8) (e : Int) : (readF rest e).1.k = 0 ∨ (readF rest e).1.k = 1 ∨ (readF rest e).1.k = 2 ∨ (readF rest e).1.k = 3 ∨ (readF rest e).1.k = 4 := by
  unfold readF
  split
  · right; left; rfl
  split
  · right; right; left; rfl
  split
  · right; right; right; left; rfl
  split
  · right; right; right; right; rfl
  · left; rfl

set_option maxHeartbeats 4000000 in
theorem Get_walk (g : Nat) (r : Vl × List UInt8 × Int) (w : World) (hg : g < w.heap.size) (hq : ∀ W, Below w.heap.size w W → Calls Try.prog 65 #[.pointer (some ⟨g, 0, none⟩)] W (ReadP g r W)) (hre : ∀ W, RdR W g r.2.1 r.2.2 → Calls Try.prog 66 #[.pointer (some ⟨g, 0, none⟩)] W (VGv (.int .i64 r.2.2) W))
    (v : Vl) (er : Int) (hcase : ((r.2.2 != 0) = true ∧ v = vZero ∧ er = r.2.2) ∨ ((r.2.2 != 0) = false ∧ (r.1.k == 0) = true ∧ v = vZero ∧ er = 12) ∨ ((r.2.2 != 0) = false ∧ (r.1.k == 0) = false ∧ v = r.1 ∧ er = 0)) :
    Calls Try.prog 33 #[.pointer (some ⟨g, 0, none⟩)] w (GetP g v er r.2.1 r.2.2 w) := by
  obtain ⟨x, r2, e2⟩ := r
  simp only at *
  have HW0 := Lib.hid ((Below.refl w.heap.size w).alloc (Nat.le_refl _) (.cells #[.int .i64 0, .int .i64 0, .bool false, .string ⟨#[]⟩, .float .f64 0] 24))
  have HB0 := Lib.hid (heap_alloc_new w (.cells #[.int .i64 0, .int .i64 0, .bool false, .string ⟨#[]⟩, .float .f64 0] 24))
  have hne : w.heap.size ≠ g := by omega
  have HQ := Lib.hid hq
  have HE := Lib.hid hre
  have HG := Lib.hid hg
  have HC := Lib.hid hcase
  clear hq hre hg hcase
  have hsf := fun (w : World) (a : Addr) (m : Mode) (b : Nat) => run_store Try.prog w a (.float .f64 b) m rfl
  go_enter Try.func33, Try.ntmps33
  go_wp2_with fail
  refine (HQ.out _ HW0.out).mono ?_
  rintro e wA ⟨rfl, hr1, ho1⟩
  have hzA : w.heap.size < wA.heap.size := by have := ho1.size; simp at this; omega
  have HO1 := Lib.hid ((Only.trans' (w := w) HW0.out ho1).below ((Below.refl _ _).alloc (Nat.le_refl _) (.cells #[.int .i64 x.k, .int .i64 x.i, .bool x.b, .string x.s, .float .f64 x.n] 24)))
  have hn1 := (ho1.block w.heap.size (by simp) (by intro e; injection e with e; exact hne e)).trans HB0.out
  have hbl : Below wA.heap.size wA (wA.alloc (.cells #[.int .i64 x.k, .int .i64 x.i, .bool x.b, .string x.s, .float .f64 x.n] 24)) := (Below.refl _ _).alloc (Nat.le_refl _) _
  have HN1 := Lib.hid ((hbl.block w.heap.size hzA).trans hn1)
  have HR1 := Lib.hid (hr1.below hbl)
  have HX := Lib.hid (Bx.new wA x)
  clear hr1 ho1 hn1 hbl
  go_upto_region 2 with fail
  generalize hwc : wA.alloc (.cells #[.int .i64 x.k, .int .i64 x.i, .bool x.b, .string x.s, .float .f64 x.n] 24) = wc at *
  have hzc : w.heap.size < wc.heap.size := by rw [← hwc]; simp; omega
  clear hwc hzA
  generalize wA.heap.size = bx at *
  have hc0 := (cell_of_row wc w.heap.size 0 _ _ (0, 0) HN1.out).trans rfl
  have hc1 := (cell_of_row wc w.heap.size 1 _ _ (0, 0) HN1.out).trans rfl
  have hc2 := (cell_of_row wc w.heap.size 2 _ _ (0, 0) HN1.out).trans rfl
  have hc3 := (cell_of_row wc w.heap.size 3 _ _ (0, 0) HN1.out).trans rfl
  have hc4 := (cell_of_row wc w.heap.size 4 _ _ (0, 0) HN1.out).trans rfl
  have hfr : ∀ j, wc.frozen? ⟨w.heap.size, j, none⟩ = false := fun j => by
    have h := HN1.out
    simp [World.frozen?, h]
  go_wp2_with fail
  refine (HE.out _ HR1.out).mono ?_
  rintro e w' ⟨rfl, rfl⟩
  obtain ⟨x0, x1, x2, x3, x4⟩ := HX.out
  rcases HC.out with ⟨t1, rfl, rfl⟩ | ⟨t1, t2, rfl, rfl⟩ | ⟨t1, t2, rfl, rfl⟩
  · go_wp2
    exact bodyPost_ret (v := pairVE vZero er) (by simp [results, Try.results33, go_sem, hc0, hc1, hc2, hc3, hc4]) rfl (GetP.mk rfl HR1.out HO1.out HG.out HN1.out _ _ _ _ _)
  · go_wp2
    exact bodyPost_ret (v := pairVE vZero 12) (by simp [results, Try.results33, go_sem, hc0, hc1, hc2, hc3, hc4]) rfl (GetP.mk rfl HR1.out HO1.out HG.out HN1.out _ _ _ _ _)
  · go_wp2
    exact bodyPost_ret (v := pairVE v 0) (by simp [results, Try.results33, go_sem, hc0, hc1, hc2, hc3, hc4]) rfl (GetP.mk rfl HR1.out HO1.out HG.out HN1.out _ _ _ _ _)

theorem Get_any (g : Nat) (rest : List UInt8) (e : Int) (w : World) (hr : RdR w g rest e) (hlen : rest.length ≤ 1000000000000) : Calls Try.prog 33 #[.pointer (some ⟨g, 0, none⟩)] w (GetP g (getV rest e) (getE rest e) (readF rest e).2.1 (readF rest e).2.2 w) := by
  refine Get_walk g (readF rest e) w hr.lt (fun W hb => read_any g rest e W (hr.below hb) hlen) (fun W h => (Err_any g _ _ W h)) (getV rest e) (getE rest e) ?_
  unfold getV getE
  by_cases h0 : (readF rest e).2.2 = 0
  · right
    rw [if_pos h0, if_pos h0]
    by_cases hk : (readF rest e).1.k = 0
    · left
      have hz : (readF rest e).1 = vZero := by
        revert hk
        unfold readF
        split
        · intro h; cases h
        split
        · intro h; cases h
        split
        · intro h; cases h
        split
        · intro h; cases h
        · intro _; rfl
      rw [if_pos hk, hz, h0]
      exact ⟨rfl, rfl, rfl, rfl⟩
    · right
      rw [if_neg hk, h0]
      exact ⟨rfl, by simpa using hk, rfl, rfl⟩
  · left
    rw [if_neg h0, if_neg h0]
    exact ⟨by simpa using h0, rfl, rfl⟩
end Go.Proofs.Ytlnpolepgdoloaa
