/- Layer 4: values out of bytes, by the document. (Made by gen/genvrget.py.) -/
import Derived.Test.YtlnpolepgdoloaaVGet2
namespace Go.Proofs.Ytlnpolepgdoloaa
open Go.RowKit
set_option linter.unusedVariables false
set_option linter.unusedSimpArgs false
set_option maxRecDepth 20000

/-- a block that holds just a value -/
def Bh (W : World) (b : Nat) (v : Vl) : Prop := W.heap[b]? = some (.cells #[.int .i64 v.k, .int .i64 v.i, .bool v.b, .string v.s, .float .f64 v.n] 24 (0, 0))
theorem Bh.lt {W : World} {b : Nat} {v : Vl} (h : Bh W b v) : b < W.heap.size := (Array.getElem?_eq_some_iff.1 h).1
theorem Bh.bx {W : World} {b : Nat} {v : Vl} (h : Bh W b v) : Bx W b v := ⟨(cell_of_row _ _ 0 _ _ (0, 0) h).trans rfl, (cell_of_row _ _ 1 _ _ (0, 0) h).trans rfl, (cell_of_row _ _ 2 _ _ (0, 0) h).trans rfl, (cell_of_row _ _ 3 _ _ (0, 0) h).trans rfl, (cell_of_row _ _ 4 _ _ (0, 0) h).trans rfl⟩
theorem Bh.free {W : World} {b : Nat} {v : Vl} (h : Bh W b v) : ∀ j, W.frozen? ⟨b, j, none⟩ = false := fun j => by
  unfold Bh at h
  simp [World.frozen?, h]
theorem Bh.below {W W' : World} {b : Nat} {v : Vl} (h : Bh W b v) (hb : Below W.heap.size W W') : Bh W' b v := (hb.block b h.lt).trans h
theorem Bh.only {W W' : World} {b g : Nat} {v : Vl} (h : Bh W b v) (ho : Only g W W') (hne : b ≠ g) : Bh W' b v := (ho.block b h.lt (by intro e; injection e with e; exact hne e)).trans h
theorem Bh.set5 {W : World} {b : Nat} {v0 : Vl} (h : Bh W b v0) (v : Vl) : Bh (((((W.setCell ⟨b, 0, none⟩ (.int .i64 v.k)).setCell ⟨b, 1, none⟩ (.int .i64 v.i)).setCell ⟨b, 2, none⟩ (.bool v.b)).setCell ⟨b, 3, none⟩ (.string v.s)).setCell ⟨b, 4, none⟩ (.float .f64 v.n)) b v := by
  unfold Bh at h ⊢
  simp [World.setCell, Array.getElem?_modify, h]
theorem num_same (rest : List UInt8) (e : Int) : numW (stepF 8 alNum rest e).1 = (stepF 8 alNum rest e).1 := by
  unfold stepF
  split
  · exact numW_0
  split
  · exact numW_0
  split
  · exact numW_0
  · rename_i h
    have h' : alNum (wordN (rest.take 8)) = 0 := by simpa using h
    unfold alNum floatE at h'
    simp only [Int.toNat_natCast] at h'
    show numW (wordN (rest.take 8)) = wordN (rest.take 8)
    generalize wordN (rest.take 8) = m at *
    rcases hn : nanB m with _ | _
    · unfold numW; rw [hn]; rfl
    · rw [(numW_eq_nan m).2 hn]
      by_cases hm : m = 9221120237041090561
      · exact hm.symm
      · rw [if_pos ⟨hm, hn⟩] at h'; cases h'

/-- what Get answers -/
def GetR (g : Nat) (v : Vl) (er : Int) (rest : List UInt8) (err : Int) (w : World) (e : Ending) (w' : World) : Prop := e = .returned (pairVE v er) ∧ RfS w' g rest err ∧ Only g w w'
theorem GetR.mk {g N : Nat} {v v0 : Vl} {er : Int} {rest : List UInt8} {err : Int} {w wB : World} (hN : N = w.heap.size) (hr : RfS wB g rest err) (ho : Only g w wB) (hg : g < w.heap.size) (hb : Bh wB N v0) (u0 u1 u2 u3 u4 : Value) :
    GetR g v er rest err w (.returned (pairVE v er)) (((((wB.setCell ⟨N, 0, none⟩ u0).setCell ⟨N, 1, none⟩ u1).setCell ⟨N, 2, none⟩ u2).setCell ⟨N, 3, none⟩ u3).setCell ⟨N, 4, none⟩ u4) := by
  subst hN
  exact ⟨rfl, hr.off (only_self5 _ _ _ _ _ _ _) (by omega) hb, ho.set5 (Nat.le_refl _) _ _ _ _ _⟩
theorem GetR.drew {g : Nat} {v : Vl} {er : Int} {rest : List UInt8} {err : Int} {w wB : World} {e : Ending} (h : GetR g v er rest err w e wB) : GetR g v er rest err w e wB.drew := by
  obtain ⟨h1, h2, h3⟩ := h
  exact ⟨h1, h2.below ((Below.refl _ _).drew), h3.below ((Below.refl _ _).drew)⟩

set_option maxHeartbeats 4000000 in
theorem rGet_err (g : Nat) (rest : List UInt8) (e : Int) (n : Nat) (r1 : List UInt8) (e1 : Int) (hst : stepF 8 alInt rest e = (n, r1, e1)) (w : World) (hr : RfS w g rest e) (he : e1 ≠ 0) : Calls Try.prog 34 #[.pointer (some ⟨g, 0, none⟩)] w (GetR g vZero e1 r1 e1 w) := by
  have hgl := hr.lt
  have q1 : ∀ W, Below w.heap.size w W → Calls Try.prog 67 #[.pointer (some ⟨g, 0, none⟩)] W (DidR g (.int .i64 (wrap64 (n : Int))) r1 e1 W) := fun W hb => by
    have h := rfInt_any g rest e W (hr.below hb)
    rwa [hst] at h
  have he' : (e1 != 0) = true := by simpa using he
  clear he
  have HW0 := Lib.hid ((Below.refl w.heap.size w).alloc (Nat.le_refl _) (.cells #[.int .i64 0, .int .i64 0, .bool false, .string ⟨#[]⟩, .float .f64 0] 24))
  have hne : w.heap.size ≠ g := by omega
  have HB0 := Lib.hid (show Bh (w.alloc (.cells #[.int .i64 0, .int .i64 0, .bool false, .string ⟨#[]⟩, .float .f64 0] 24)) w.heap.size vZero from heap_alloc_new w _)
  have Q1 := Lib.hid q1
  have HG := Lib.hid hgl
  clear q1 hr hst hgl
  have hsf := fun (w : World) (a : Addr) (m : Mode) (b : Nat) => run_store Try.prog w a (.float .f64 b) m rfl
  go_enter Try.func34, Try.ntmps34
  go_wp2_with fail
  refine (Q1.out _ HW0.out).mono ?_
  rintro e wA ⟨rfl, hr1, ho1⟩
  have hzA : w.heap.size < wA.heap.size := by have := ho1.size; simp at this; omega
  have hgA : g < wA.heap.size := hr1.lt
  have hbl : Below wA.heap.size wA (wA.alloc (.cells #[.int .i64 0, .int .i64 0, .bool false, .string ⟨#[]⟩, .float .f64 0] 24)) := (Below.refl _ _).alloc (Nat.le_refl _) _
  have HO1 := Lib.hid ((Only.trans' (w := w) HW0.out ho1).below hbl)
  have HN1 := Lib.hid ((HB0.out.only ho1 hne).below hbl)
  have HM1 := Lib.hid (show Bh (wA.alloc (.cells #[.int .i64 0, .int .i64 0, .bool false, .string ⟨#[]⟩, .float .f64 0] 24)) wA.heap.size vZero from heap_alloc_new wA _)
  have HR1 := Lib.hid (hr1.below hbl)
  have hgM : wA.heap.size ≠ g := by omega
  have hgL : g < wA.heap.size := hgA
  have hwM : w.heap.size ≤ wA.heap.size := by omega
  have hNM : w.heap.size ≠ wA.heap.size := by omega
  clear hr1 ho1 hbl hzA hgA
  go_upto_region 3 with fail
  generalize wA.alloc (.cells #[.int .i64 0, .int .i64 0, .bool false, .string ⟨#[]⟩, .float .f64 0] 24) = wc at *
  generalize wA.heap.size = bm at *
  have hge := HR1.out.err
  obtain ⟨c0, c1, c2, c3, c4⟩ := HN1.out.bx
  have cf := HN1.out.free
  obtain ⟨m0, m1, m2, m3, m4⟩ := HM1.out.bx
  have mf := HM1.out.free
  go_wp2
  go_region
  all_goals
    go_wp2
    exact bodyPost_ret (v := pairVE vZero e1) (by simp [results, Try.results34, go_sem, c0, c1, c2, c3, c4]) rfl (GetR.drew (GetR.mk (w := w) rfl HR1.out HO1.out HG.out HN1.out _ _ _ _ _))

set_option maxHeartbeats 4000000 in
theorem rGet_none (g : Nat) (rest : List UInt8) (e : Int) (n : Nat) (r1 : List UInt8) (e1 : Int) (hst : stepF 8 alInt rest e = (n, r1, e1)) (w : World) (hr : RfS w g rest e) (he : e1 = 0) (h1 : wrap64 (n : Int) ≠ 1) (h2 : wrap64 (n : Int) ≠ 2) (h3 : wrap64 (n : Int) ≠ 3) (h4 : wrap64 (n : Int) ≠ 4) : Calls Try.prog 34 #[.pointer (some ⟨g, 0, none⟩)] w (GetR g vZero 12 r1 e1 w) := by
  have hgl := hr.lt
  have q1 : ∀ W, Below w.heap.size w W → Calls Try.prog 67 #[.pointer (some ⟨g, 0, none⟩)] W (DidR g (.int .i64 (wrap64 (n : Int))) r1 e1 W) := fun W hb => by
    have h := rfInt_any g rest e W (hr.below hb)
    rwa [hst] at h
  subst he
  have d1 : (wrap64 (n : Int) == 1) = false := by simpa using h1
  have d2 : (wrap64 (n : Int) == 2) = false := by simpa using h2
  have d3 : (wrap64 (n : Int) == 3) = false := by simpa using h3
  have d4 : (wrap64 (n : Int) == 4) = false := by simpa using h4
  clear h1 h2 h3 h4
  have HW0 := Lib.hid ((Below.refl w.heap.size w).alloc (Nat.le_refl _) (.cells #[.int .i64 0, .int .i64 0, .bool false, .string ⟨#[]⟩, .float .f64 0] 24))
  have hne : w.heap.size ≠ g := by omega
  have HB0 := Lib.hid (show Bh (w.alloc (.cells #[.int .i64 0, .int .i64 0, .bool false, .string ⟨#[]⟩, .float .f64 0] 24)) w.heap.size vZero from heap_alloc_new w _)
  have Q1 := Lib.hid q1
  have HG := Lib.hid hgl
  clear q1 hr hst hgl
  have hsf := fun (w : World) (a : Addr) (m : Mode) (b : Nat) => run_store Try.prog w a (.float .f64 b) m rfl
  go_enter Try.func34, Try.ntmps34
  go_wp2_with fail
  refine (Q1.out _ HW0.out).mono ?_
  rintro e wA ⟨rfl, hr1, ho1⟩
  have hzA : w.heap.size < wA.heap.size := by have := ho1.size; simp at this; omega
  have hgA : g < wA.heap.size := hr1.lt
  have hbl : Below wA.heap.size wA (wA.alloc (.cells #[.int .i64 0, .int .i64 0, .bool false, .string ⟨#[]⟩, .float .f64 0] 24)) := (Below.refl _ _).alloc (Nat.le_refl _) _
  have HO1 := Lib.hid ((Only.trans' (w := w) HW0.out ho1).below hbl)
  have HN1 := Lib.hid ((HB0.out.only ho1 hne).below hbl)
  have HM1 := Lib.hid (show Bh (wA.alloc (.cells #[.int .i64 0, .int .i64 0, .bool false, .string ⟨#[]⟩, .float .f64 0] 24)) wA.heap.size vZero from heap_alloc_new wA _)
  have HR1 := Lib.hid (hr1.below hbl)
  have hgM : wA.heap.size ≠ g := by omega
  have hgL : g < wA.heap.size := hgA
  have hwM : w.heap.size ≤ wA.heap.size := by omega
  have hNM : w.heap.size ≠ wA.heap.size := by omega
  clear hr1 ho1 hbl hzA hgA
  go_upto_region 3 with fail
  generalize wA.alloc (.cells #[.int .i64 0, .int .i64 0, .bool false, .string ⟨#[]⟩, .float .f64 0] 24) = wc at *
  generalize wA.heap.size = bm at *
  have hge := HR1.out.err
  obtain ⟨c0, c1, c2, c3, c4⟩ := HN1.out.bx
  have cf := HN1.out.free
  obtain ⟨m0, m1, m2, m3, m4⟩ := HM1.out.bx
  have mf := HM1.out.free
  go_wp2
  exact bodyPost_ret (v := pairVE vZero 12) (by simp [results, Try.results34, go_sem, c0, c1, c2, c3, c4]) rfl (GetR.mk (w := w) rfl HR1.out HO1.out HG.out HN1.out _ _ _ _ _)

set_option maxHeartbeats 4000000 in
theorem rGet_1ok (g : Nat) (rest : List UInt8) (e : Int) (n : Nat) (r1 : List UInt8) (e1 : Int) (hst : stepF 8 alInt rest e = (n, r1, e1)) (w : World) (hr : RfS w g rest e) (he : e1 = 0) (hk : wrap64 (n : Int) = 1) (m : Nat) (r2 : List UInt8) (e2 : Int) (ht : stepF 8 alInt r1 e1 = (m, r2, e2)) (he2 : e2 = 0) : Calls Try.prog 34 #[.pointer (some ⟨g, 0, none⟩)] w (GetR g (vInt (wrap64 (m : Int))) 0 r2 e2 w) := by
  have hgl := hr.lt
  have q1 : ∀ W, Below w.heap.size w W → Calls Try.prog 67 #[.pointer (some ⟨g, 0, none⟩)] W (DidR g (.int .i64 (wrap64 (n : Int))) r1 e1 W) := fun W hb => by
    have h := rfInt_any g rest e W (hr.below hb)
    rwa [hst] at h
  have d1 : (wrap64 (n : Int) == 1) = true := by rw [hk]; rfl
  have d2 : (wrap64 (n : Int) == 2) = false := by rw [hk]; rfl
  have d3 : (wrap64 (n : Int) == 3) = false := by rw [hk]; rfl
  have d4 : (wrap64 (n : Int) == 4) = false := by rw [hk]; rfl
  have d9 : (e2 != 0) = false := by simp [he2]
  have q2 : ∀ W, RfS W g r1 e1 → Calls Try.prog 67 #[.pointer (some ⟨g, 0, none⟩)] W (DidR g (.int .i64 (wrap64 (m : Int))) r2 e2 W) := fun W h => by
    have h := rfInt_any g r1 e1 W h
    rwa [ht] at h
  clear ht he2
  obtain ⟨i, hi⟩ : ∃ i, wrap64 (m : Int) = i := ⟨_, rfl⟩
  rw [hi] at q2 ⊢
  clear hi
  have Q2 := Lib.hid q2
  clear q2 hk
  subst he
  have HW0 := Lib.hid ((Below.refl w.heap.size w).alloc (Nat.le_refl _) (.cells #[.int .i64 0, .int .i64 0, .bool false, .string ⟨#[]⟩, .float .f64 0] 24))
  have hne : w.heap.size ≠ g := by omega
  have HB0 := Lib.hid (show Bh (w.alloc (.cells #[.int .i64 0, .int .i64 0, .bool false, .string ⟨#[]⟩, .float .f64 0] 24)) w.heap.size vZero from heap_alloc_new w _)
  have Q1 := Lib.hid q1
  have HG := Lib.hid hgl
  clear q1 hr hst hgl
  have hsf := fun (w : World) (a : Addr) (m : Mode) (b : Nat) => run_store Try.prog w a (.float .f64 b) m rfl
  go_enter Try.func34, Try.ntmps34
  go_wp2_with fail
  refine (Q1.out _ HW0.out).mono ?_
  rintro e wA ⟨rfl, hr1, ho1⟩
  have hzA : w.heap.size < wA.heap.size := by have := ho1.size; simp at this; omega
  have hgA : g < wA.heap.size := hr1.lt
  have hbl : Below wA.heap.size wA (wA.alloc (.cells #[.int .i64 0, .int .i64 0, .bool false, .string ⟨#[]⟩, .float .f64 0] 24)) := (Below.refl _ _).alloc (Nat.le_refl _) _
  have HO1 := Lib.hid ((Only.trans' (w := w) HW0.out ho1).below hbl)
  have HN1 := Lib.hid ((HB0.out.only ho1 hne).below hbl)
  have HM1 := Lib.hid (show Bh (wA.alloc (.cells #[.int .i64 0, .int .i64 0, .bool false, .string ⟨#[]⟩, .float .f64 0] 24)) wA.heap.size vZero from heap_alloc_new wA _)
  have HR1 := Lib.hid (hr1.below hbl)
  have hgM : wA.heap.size ≠ g := by omega
  have hgL : g < wA.heap.size := hgA
  have hwM : w.heap.size ≤ wA.heap.size := by omega
  have hNM : w.heap.size ≠ wA.heap.size := by omega
  clear hr1 ho1 hbl hzA hgA
  go_upto_region 3 with fail
  generalize wA.alloc (.cells #[.int .i64 0, .int .i64 0, .bool false, .string ⟨#[]⟩, .float .f64 0] 24) = wc at *
  generalize wA.heap.size = bm at *
  have hge := HR1.out.err
  obtain ⟨m_0, m_1, m_2, m_3, m_4⟩ := HM1.out.bx
  have mf_ := HM1.out.free
  go_wp2_with fail
  refine (Q2.out _ HR1.out).mono ?_
  rintro e wB ⟨rfl, hr2, ho2⟩
  clear m_0 m_1 m_2 m_3 m_4 mf_ hge
  have HO2 := Lib.hid (HO1.out.trans ho2)
  have HN2 := Lib.hid (HN1.out.only ho2 hne)
  have HM2 := Lib.hid (HM1.out.only ho2 hgM)
  have HR2 := Lib.hid hr2
  clear hr2 ho2
  go_wp2_with fail
  refine (rIntV_any i _).mono ?_
  rintro e wD ⟨rfl, hbD⟩
  have HO2 := Lib.hid (Only.below HO2.out hbD)
  have HN2 := Lib.hid (HN2.out.below hbD)
  have HM2 := Lib.hid (HM2.out.below hbD)
  have HR2 := Lib.hid (HR2.out.below hbD)
  clear hbD
  obtain ⟨p0, p1, p2, p3, p4⟩ := HM2.out.bx
  have pf := HM2.out.free
  go_upto_region 15 with fail
  have HM3 := Lib.hid (HM2.out.set5 (vInt i))
  have HN3 := Lib.hid (HN2.out.only (only_self5 bm wD (.int .i64 (vInt i).k) (.int .i64 (vInt i).i) (.bool (vInt i).b) (.string (vInt i).s) (.float .f64 (vInt i).n)) hNM)
  have HR3 := Lib.hid (HR2.out.off (only_self5 bm wD (.int .i64 (vInt i).k) (.int .i64 (vInt i).i) (.bool (vInt i).b) (.string (vInt i).s) (.float .f64 (vInt i).n)) hgL HM2.out)
  have HO3 := Lib.hid (Only.set5 HO2.out hwM (.int .i64 (vInt i).k) (.int .i64 (vInt i).i) (.bool (vInt i).b) (.string (vInt i).s) (.float .f64 (vInt i).n))
  simp only at HM3 HN3 HR3 HO3
  clear p0 p1 p2 p3 p4 pf
  generalize (((((wD.setCell ⟨bm, 0, none⟩ _).setCell ⟨bm, 1, none⟩ _).setCell ⟨bm, 2, none⟩ _).setCell ⟨bm, 3, none⟩ _).setCell ⟨bm, 4, none⟩ _) = wd at *
  have hge := HR3.out.err
  obtain ⟨c0, c1, c2, c3, c4⟩ := HN3.out.bx
  have cf := HN3.out.free
  obtain ⟨p0, p1, p2, p3, p4⟩ := HM3.out.bx
  have pf := HM3.out.free
  simp only at p0 p1 p2 p3 p4
  go_wp2
  exact bodyPost_ret (v := pairVE (vInt i) 0) (by simp [results, Try.results34, go_sem, c0, c1, c2, c3, c4]) rfl (GetR.mk (w := w) rfl HR3.out HO3.out HG.out HN3.out _ _ _ _ _)

set_option maxHeartbeats 4000000 in
theorem rGet_1no (g : Nat) (rest : List UInt8) (e : Int) (n : Nat) (r1 : List UInt8) (e1 : Int) (hst : stepF 8 alInt rest e = (n, r1, e1)) (w : World) (hr : RfS w g rest e) (he : e1 = 0) (hk : wrap64 (n : Int) = 1) (m : Nat) (r2 : List UInt8) (e2 : Int) (ht : stepF 8 alInt r1 e1 = (m, r2, e2)) (he2 : e2 ≠ 0) : Calls Try.prog 34 #[.pointer (some ⟨g, 0, none⟩)] w (GetR g vZero e2 r2 e2 w) := by
  have hgl := hr.lt
  have q1 : ∀ W, Below w.heap.size w W → Calls Try.prog 67 #[.pointer (some ⟨g, 0, none⟩)] W (DidR g (.int .i64 (wrap64 (n : Int))) r1 e1 W) := fun W hb => by
    have h := rfInt_any g rest e W (hr.below hb)
    rwa [hst] at h
  have d1 : (wrap64 (n : Int) == 1) = true := by rw [hk]; rfl
  have d2 : (wrap64 (n : Int) == 2) = false := by rw [hk]; rfl
  have d3 : (wrap64 (n : Int) == 3) = false := by rw [hk]; rfl
  have d4 : (wrap64 (n : Int) == 4) = false := by rw [hk]; rfl
  have d9 : (e2 != 0) = true := by simpa using he2
  have q2 : ∀ W, RfS W g r1 e1 → Calls Try.prog 67 #[.pointer (some ⟨g, 0, none⟩)] W (DidR g (.int .i64 (wrap64 (m : Int))) r2 e2 W) := fun W h => by
    have h := rfInt_any g r1 e1 W h
    rwa [ht] at h
  clear ht he2
  obtain ⟨i, hi⟩ : ∃ i, wrap64 (m : Int) = i := ⟨_, rfl⟩
  rw [hi] at q2
  clear hi
  have Q2 := Lib.hid q2
  clear q2 hk
  subst he
  have HW0 := Lib.hid ((Below.refl w.heap.size w).alloc (Nat.le_refl _) (.cells #[.int .i64 0, .int .i64 0, .bool false, .string ⟨#[]⟩, .float .f64 0] 24))
  have hne : w.heap.size ≠ g := by omega
  have HB0 := Lib.hid (show Bh (w.alloc (.cells #[.int .i64 0, .int .i64 0, .bool false, .string ⟨#[]⟩, .float .f64 0] 24)) w.heap.size vZero from heap_alloc_new w _)
  have Q1 := Lib.hid q1
  have HG := Lib.hid hgl
  clear q1 hr hst hgl
  have hsf := fun (w : World) (a : Addr) (m : Mode) (b : Nat) => run_store Try.prog w a (.float .f64 b) m rfl
  go_enter Try.func34, Try.ntmps34
  go_wp2_with fail
  refine (Q1.out _ HW0.out).mono ?_
  rintro e wA ⟨rfl, hr1, ho1⟩
  have hzA : w.heap.size < wA.heap.size := by have := ho1.size; simp at this; omega
  have hgA : g < wA.heap.size := hr1.lt
  have hbl : Below wA.heap.size wA (wA.alloc (.cells #[.int .i64 0, .int .i64 0, .bool false, .string ⟨#[]⟩, .float .f64 0] 24)) := (Below.refl _ _).alloc (Nat.le_refl _) _
  have HO1 := Lib.hid ((Only.trans' (w := w) HW0.out ho1).below hbl)
  have HN1 := Lib.hid ((HB0.out.only ho1 hne).below hbl)
  have HM1 := Lib.hid (show Bh (wA.alloc (.cells #[.int .i64 0, .int .i64 0, .bool false, .string ⟨#[]⟩, .float .f64 0] 24)) wA.heap.size vZero from heap_alloc_new wA _)
  have HR1 := Lib.hid (hr1.below hbl)
  have hgM : wA.heap.size ≠ g := by omega
  have hgL : g < wA.heap.size := hgA
  have hwM : w.heap.size ≤ wA.heap.size := by omega
  have hNM : w.heap.size ≠ wA.heap.size := by omega
  clear hr1 ho1 hbl hzA hgA
  go_upto_region 3 with fail
  generalize wA.alloc (.cells #[.int .i64 0, .int .i64 0, .bool false, .string ⟨#[]⟩, .float .f64 0] 24) = wc at *
  generalize wA.heap.size = bm at *
  have hge := HR1.out.err
  obtain ⟨m_0, m_1, m_2, m_3, m_4⟩ := HM1.out.bx
  have mf_ := HM1.out.free
  go_wp2_with fail
  refine (Q2.out _ HR1.out).mono ?_
  rintro e wB ⟨rfl, hr2, ho2⟩
  clear m_0 m_1 m_2 m_3 m_4 mf_ hge
  have HO2 := Lib.hid (HO1.out.trans ho2)
  have HN2 := Lib.hid (HN1.out.only ho2 hne)
  have HM2 := Lib.hid (HM1.out.only ho2 hgM)
  have HR2 := Lib.hid hr2
  clear hr2 ho2
  go_wp2_with fail
  refine (rIntV_any i _).mono ?_
  rintro e wD ⟨rfl, hbD⟩
  have HO2 := Lib.hid (Only.below HO2.out hbD)
  have HN2 := Lib.hid (HN2.out.below hbD)
  have HM2 := Lib.hid (HM2.out.below hbD)
  have HR2 := Lib.hid (HR2.out.below hbD)
  clear hbD
  obtain ⟨p0, p1, p2, p3, p4⟩ := HM2.out.bx
  have pf := HM2.out.free
  go_upto_region 15 with fail
  have HM3 := Lib.hid (HM2.out.set5 (vInt i))
  have HN3 := Lib.hid (HN2.out.only (only_self5 bm wD (.int .i64 (vInt i).k) (.int .i64 (vInt i).i) (.bool (vInt i).b) (.string (vInt i).s) (.float .f64 (vInt i).n)) hNM)
  have HR3 := Lib.hid (HR2.out.off (only_self5 bm wD (.int .i64 (vInt i).k) (.int .i64 (vInt i).i) (.bool (vInt i).b) (.string (vInt i).s) (.float .f64 (vInt i).n)) hgL HM2.out)
  have HO3 := Lib.hid (Only.set5 HO2.out hwM (.int .i64 (vInt i).k) (.int .i64 (vInt i).i) (.bool (vInt i).b) (.string (vInt i).s) (.float .f64 (vInt i).n))
  simp only at HM3 HN3 HR3 HO3
  clear p0 p1 p2 p3 p4 pf
  generalize (((((wD.setCell ⟨bm, 0, none⟩ _).setCell ⟨bm, 1, none⟩ _).setCell ⟨bm, 2, none⟩ _).setCell ⟨bm, 3, none⟩ _).setCell ⟨bm, 4, none⟩ _) = wd at *
  have hge := HR3.out.err
  obtain ⟨c0, c1, c2, c3, c4⟩ := HN3.out.bx
  have cf := HN3.out.free
  obtain ⟨p0, p1, p2, p3, p4⟩ := HM3.out.bx
  have pf := HM3.out.free
  simp only at p0 p1 p2 p3 p4
  go_wp2
  go_region
  all_goals
    go_wp2
    exact bodyPost_ret (v := pairVE vZero e2) (by simp [results, Try.results34, go_sem, c0, c1, c2, c3, c4]) rfl (GetR.drew (GetR.mk (w := w) rfl HR3.out HO3.out HG.out HN3.out _ _ _ _ _))

set_option maxHeartbeats 4000000 in
theorem rGet_2ok (g : Nat) (rest : List UInt8) (e : Int) (n : Nat) (r1 : List UInt8) (e1 : Int) (hst : stepF 8 alInt rest e = (n, r1, e1)) (w : World) (hr : RfS w g rest e) (he : e1 = 0) (hk : wrap64 (n : Int) = 2) (m : Nat) (r2 : List UInt8) (e2 : Int) (ht : stepF 1 alBool r1 e1 = (m, r2, e2)) (he2 : e2 = 0) : Calls Try.prog 34 #[.pointer (some ⟨g, 0, none⟩)] w (GetR g (vTruth (decide (m = 1))) 0 r2 e2 w) := by
  have hgl := hr.lt
  have q1 : ∀ W, Below w.heap.size w W → Calls Try.prog 67 #[.pointer (some ⟨g, 0, none⟩)] W (DidR g (.int .i64 (wrap64 (n : Int))) r1 e1 W) := fun W hb => by
    have h := rfInt_any g rest e W (hr.below hb)
    rwa [hst] at h
  have d1 : (wrap64 (n : Int) == 1) = false := by rw [hk]; rfl
  have d2 : (wrap64 (n : Int) == 2) = true := by rw [hk]; rfl
  have d3 : (wrap64 (n : Int) == 3) = false := by rw [hk]; rfl
  have d4 : (wrap64 (n : Int) == 4) = false := by rw [hk]; rfl
  have d9 : (e2 != 0) = false := by simp [he2]
  have q2 : ∀ W, RfS W g r1 e1 → Calls Try.prog 69 #[.pointer (some ⟨g, 0, none⟩)] W (DidR g (.bool (decide (m = 1))) r2 e2 W) := fun W h => by
    have h := rfBool_any g r1 e1 W h
    rwa [ht] at h
  clear ht he2
  have Q2 := Lib.hid q2
  clear q2 hk
  subst he
  have HW0 := Lib.hid ((Below.refl w.heap.size w).alloc (Nat.le_refl _) (.cells #[.int .i64 0, .int .i64 0, .bool false, .string ⟨#[]⟩, .float .f64 0] 24))
  have hne : w.heap.size ≠ g := by omega
  have HB0 := Lib.hid (show Bh (w.alloc (.cells #[.int .i64 0, .int .i64 0, .bool false, .string ⟨#[]⟩, .float .f64 0] 24)) w.heap.size vZero from heap_alloc_new w _)
  have Q1 := Lib.hid q1
  have HG := Lib.hid hgl
  clear q1 hr hst hgl
  have hsf := fun (w : World) (a : Addr) (m : Mode) (b : Nat) => run_store Try.prog w a (.float .f64 b) m rfl
  go_enter Try.func34, Try.ntmps34
  go_wp2_with fail
  refine (Q1.out _ HW0.out).mono ?_
  rintro e wA ⟨rfl, hr1, ho1⟩
  have hzA : w.heap.size < wA.heap.size := by have := ho1.size; simp at this; omega
  have hgA : g < wA.heap.size := hr1.lt
  have hbl : Below wA.heap.size wA (wA.alloc (.cells #[.int .i64 0, .int .i64 0, .bool false, .string ⟨#[]⟩, .float .f64 0] 24)) := (Below.refl _ _).alloc (Nat.le_refl _) _
  have HO1 := Lib.hid ((Only.trans' (w := w) HW0.out ho1).below hbl)
  have HN1 := Lib.hid ((HB0.out.only ho1 hne).below hbl)
  have HM1 := Lib.hid (show Bh (wA.alloc (.cells #[.int .i64 0, .int .i64 0, .bool false, .string ⟨#[]⟩, .float .f64 0] 24)) wA.heap.size vZero from heap_alloc_new wA _)
  have HR1 := Lib.hid (hr1.below hbl)
  have hgM : wA.heap.size ≠ g := by omega
  have hgL : g < wA.heap.size := hgA
  have hwM : w.heap.size ≤ wA.heap.size := by omega
  have hNM : w.heap.size ≠ wA.heap.size := by omega
  clear hr1 ho1 hbl hzA hgA
  go_upto_region 3 with fail
  generalize wA.alloc (.cells #[.int .i64 0, .int .i64 0, .bool false, .string ⟨#[]⟩, .float .f64 0] 24) = wc at *
  generalize wA.heap.size = bm at *
  have hge := HR1.out.err
  obtain ⟨m_0, m_1, m_2, m_3, m_4⟩ := HM1.out.bx
  have mf_ := HM1.out.free
  go_wp2_with fail
  refine (Q2.out _ HR1.out).mono ?_
  rintro e wB ⟨rfl, hr2, ho2⟩
  clear m_0 m_1 m_2 m_3 m_4 mf_ hge
  have HO2 := Lib.hid (HO1.out.trans ho2)
  have HN2 := Lib.hid (HN1.out.only ho2 hne)
  have HM2 := Lib.hid (HM1.out.only ho2 hgM)
  have HR2 := Lib.hid hr2
  clear hr2 ho2
  go_wp2_with fail
  refine (rTruthV_any (decide (m = 1)) _).mono ?_
  rintro e wD ⟨rfl, hbD⟩
  have HO2 := Lib.hid (Only.below HO2.out hbD)
  have HN2 := Lib.hid (HN2.out.below hbD)
  have HM2 := Lib.hid (HM2.out.below hbD)
  have HR2 := Lib.hid (HR2.out.below hbD)
  clear hbD
  obtain ⟨p0, p1, p2, p3, p4⟩ := HM2.out.bx
  have pf := HM2.out.free
  go_upto_region 15 with fail
  have HM3 := Lib.hid (HM2.out.set5 (vTruth (decide (m = 1))))
  have HN3 := Lib.hid (HN2.out.only (only_self5 bm wD (.int .i64 (vTruth (decide (m = 1))).k) (.int .i64 (vTruth (decide (m = 1))).i) (.bool (vTruth (decide (m = 1))).b) (.string (vTruth (decide (m = 1))).s) (.float .f64 (vTruth (decide (m = 1))).n)) hNM)
  have HR3 := Lib.hid (HR2.out.off (only_self5 bm wD (.int .i64 (vTruth (decide (m = 1))).k) (.int .i64 (vTruth (decide (m = 1))).i) (.bool (vTruth (decide (m = 1))).b) (.string (vTruth (decide (m = 1))).s) (.float .f64 (vTruth (decide (m = 1))).n)) hgL HM2.out)
  have HO3 := Lib.hid (Only.set5 HO2.out hwM (.int .i64 (vTruth (decide (m = 1))).k) (.int .i64 (vTruth (decide (m = 1))).i) (.bool (vTruth (decide (m = 1))).b) (.string (vTruth (decide (m = 1))).s) (.float .f64 (vTruth (decide (m = 1))).n))
  simp only at HM3 HN3 HR3 HO3
  clear p0 p1 p2 p3 p4 pf
  generalize (((((wD.setCell ⟨bm, 0, none⟩ _).setCell ⟨bm, 1, none⟩ _).setCell ⟨bm, 2, none⟩ _).setCell ⟨bm, 3, none⟩ _).setCell ⟨bm, 4, none⟩ _) = wd at *
  have hge := HR3.out.err
  obtain ⟨c0, c1, c2, c3, c4⟩ := HN3.out.bx
  have cf := HN3.out.free
  obtain ⟨p0, p1, p2, p3, p4⟩ := HM3.out.bx
  have pf := HM3.out.free
  simp only at p0 p1 p2 p3 p4
  go_wp2
  exact bodyPost_ret (v := pairVE (vTruth (decide (m = 1))) 0) (by simp [results, Try.results34, go_sem, c0, c1, c2, c3, c4]) rfl (GetR.mk (w := w) rfl HR3.out HO3.out HG.out HN3.out _ _ _ _ _)

set_option maxHeartbeats 4000000 in
theorem rGet_2no (g : Nat) (rest : List UInt8) (e : Int) (n : Nat) (r1 : List UInt8) (e1 : Int) (hst : stepF 8 alInt rest e = (n, r1, e1)) (w : World) (hr : RfS w g rest e) (he : e1 = 0) (hk : wrap64 (n : Int) = 2) (m : Nat) (r2 : List UInt8) (e2 : Int) (ht : stepF 1 alBool r1 e1 = (m, r2, e2)) (he2 : e2 ≠ 0) : Calls Try.prog 34 #[.pointer (some ⟨g, 0, none⟩)] w (GetR g vZero e2 r2 e2 w) := by
  have hgl := hr.lt
  have q1 : ∀ W, Below w.heap.size w W → Calls Try.prog 67 #[.pointer (some ⟨g, 0, none⟩)] W (DidR g (.int .i64 (wrap64 (n : Int))) r1 e1 W) := fun W hb => by
    have h := rfInt_any g rest e W (hr.below hb)
    rwa [hst] at h
  have d1 : (wrap64 (n : Int) == 1) = false := by rw [hk]; rfl
  have d2 : (wrap64 (n : Int) == 2) = true := by rw [hk]; rfl
  have d3 : (wrap64 (n : Int) == 3) = false := by rw [hk]; rfl
  have d4 : (wrap64 (n : Int) == 4) = false := by rw [hk]; rfl
  have d9 : (e2 != 0) = true := by simpa using he2
  have q2 : ∀ W, RfS W g r1 e1 → Calls Try.prog 69 #[.pointer (some ⟨g, 0, none⟩)] W (DidR g (.bool (decide (m = 1))) r2 e2 W) := fun W h => by
    have h := rfBool_any g r1 e1 W h
    rwa [ht] at h
  clear ht he2
  have Q2 := Lib.hid q2
  clear q2 hk
  subst he
  have HW0 := Lib.hid ((Below.refl w.heap.size w).alloc (Nat.le_refl _) (.cells #[.int .i64 0, .int .i64 0, .bool false, .string ⟨#[]⟩, .float .f64 0] 24))
  have hne : w.heap.size ≠ g := by omega
  have HB0 := Lib.hid (show Bh (w.alloc (.cells #[.int .i64 0, .int .i64 0, .bool false, .string ⟨#[]⟩, .float .f64 0] 24)) w.heap.size vZero from heap_alloc_new w _)
  have Q1 := Lib.hid q1
  have HG := Lib.hid hgl
  clear q1 hr hst hgl
  have hsf := fun (w : World) (a : Addr) (m : Mode) (b : Nat) => run_store Try.prog w a (.float .f64 b) m rfl
  go_enter Try.func34, Try.ntmps34
  go_wp2_with fail
  refine (Q1.out _ HW0.out).mono ?_
  rintro e wA ⟨rfl, hr1, ho1⟩
  have hzA : w.heap.size < wA.heap.size := by have := ho1.size; simp at this; omega
  have hgA : g < wA.heap.size := hr1.lt
  have hbl : Below wA.heap.size wA (wA.alloc (.cells #[.int .i64 0, .int .i64 0, .bool false, .string ⟨#[]⟩, .float .f64 0] 24)) := (Below.refl _ _).alloc (Nat.le_refl _) _
  have HO1 := Lib.hid ((Only.trans' (w := w) HW0.out ho1).below hbl)
  have HN1 := Lib.hid ((HB0.out.only ho1 hne).below hbl)
  have HM1 := Lib.hid (show Bh (wA.alloc (.cells #[.int .i64 0, .int .i64 0, .bool false, .string ⟨#[]⟩, .float .f64 0] 24)) wA.heap.size vZero from heap_alloc_new wA _)
  have HR1 := Lib.hid (hr1.below hbl)
  have hgM : wA.heap.size ≠ g := by omega
  have hgL : g < wA.heap.size := hgA
  have hwM : w.heap.size ≤ wA.heap.size := by omega
  have hNM : w.heap.size ≠ wA.heap.size := by omega
  clear hr1 ho1 hbl hzA hgA
  go_upto_region 3 with fail
  generalize wA.alloc (.cells #[.int .i64 0, .int .i64 0, .bool false, .string ⟨#[]⟩, .float .f64 0] 24) = wc at *
  generalize wA.heap.size = bm at *
  have hge := HR1.out.err
  obtain ⟨m_0, m_1, m_2, m_3, m_4⟩ := HM1.out.bx
  have mf_ := HM1.out.free
  go_wp2_with fail
  refine (Q2.out _ HR1.out).mono ?_
  rintro e wB ⟨rfl, hr2, ho2⟩
  clear m_0 m_1 m_2 m_3 m_4 mf_ hge
  have HO2 := Lib.hid (HO1.out.trans ho2)
  have HN2 := Lib.hid (HN1.out.only ho2 hne)
  have HM2 := Lib.hid (HM1.out.only ho2 hgM)
  have HR2 := Lib.hid hr2
  clear hr2 ho2
  go_wp2_with fail
  refine (rTruthV_any (decide (m = 1)) _).mono ?_
  rintro e wD ⟨rfl, hbD⟩
  have HO2 := Lib.hid (Only.below HO2.out hbD)
  have HN2 := Lib.hid (HN2.out.below hbD)
  have HM2 := Lib.hid (HM2.out.below hbD)
  have HR2 := Lib.hid (HR2.out.below hbD)
  clear hbD
  obtain ⟨p0, p1, p2, p3, p4⟩ := HM2.out.bx
  have pf := HM2.out.free
  go_upto_region 15 with fail
  have HM3 := Lib.hid (HM2.out.set5 (vTruth (decide (m = 1))))
  have HN3 := Lib.hid (HN2.out.only (only_self5 bm wD (.int .i64 (vTruth (decide (m = 1))).k) (.int .i64 (vTruth (decide (m = 1))).i) (.bool (vTruth (decide (m = 1))).b) (.string (vTruth (decide (m = 1))).s) (.float .f64 (vTruth (decide (m = 1))).n)) hNM)
  have HR3 := Lib.hid (HR2.out.off (only_self5 bm wD (.int .i64 (vTruth (decide (m = 1))).k) (.int .i64 (vTruth (decide (m = 1))).i) (.bool (vTruth (decide (m = 1))).b) (.string (vTruth (decide (m = 1))).s) (.float .f64 (vTruth (decide (m = 1))).n)) hgL HM2.out)
  have HO3 := Lib.hid (Only.set5 HO2.out hwM (.int .i64 (vTruth (decide (m = 1))).k) (.int .i64 (vTruth (decide (m = 1))).i) (.bool (vTruth (decide (m = 1))).b) (.string (vTruth (decide (m = 1))).s) (.float .f64 (vTruth (decide (m = 1))).n))
  simp only at HM3 HN3 HR3 HO3
  clear p0 p1 p2 p3 p4 pf
  generalize (((((wD.setCell ⟨bm, 0, none⟩ _).setCell ⟨bm, 1, none⟩ _).setCell ⟨bm, 2, none⟩ _).setCell ⟨bm, 3, none⟩ _).setCell ⟨bm, 4, none⟩ _) = wd at *
  have hge := HR3.out.err
  obtain ⟨c0, c1, c2, c3, c4⟩ := HN3.out.bx
  have cf := HN3.out.free
  obtain ⟨p0, p1, p2, p3, p4⟩ := HM3.out.bx
  have pf := HM3.out.free
  simp only at p0 p1 p2 p3 p4
  go_wp2
  go_region
  all_goals
    go_wp2
    exact bodyPost_ret (v := pairVE vZero e2) (by simp [results, Try.results34, go_sem, c0, c1, c2, c3, c4]) rfl (GetR.drew (GetR.mk (w := w) rfl HR3.out HO3.out HG.out HN3.out _ _ _ _ _))

set_option maxHeartbeats 4000000 in
theorem rGet_3ok (g : Nat) (rest : List UInt8) (e : Int) (n : Nat) (r1 : List UInt8) (e1 : Int) (hst : stepF 8 alInt rest e = (n, r1, e1)) (w : World) (hr : RfS w g rest e) (he : e1 = 0) (hk : wrap64 (n : Int) = 3) (m : List UInt8) (r2 : List UInt8) (e2 : Int) (ht : bytesF 32 r1 e1 = (m, r2, e2)) (he2 : e2 = 0) : Calls Try.prog 34 #[.pointer (some ⟨g, 0, none⟩)] w (GetR g (⟨3, 0, false, strB m, 0⟩) 0 r2 e2 w) := by
  have hgl := hr.lt
  have q1 : ∀ W, Below w.heap.size w W → Calls Try.prog 67 #[.pointer (some ⟨g, 0, none⟩)] W (DidR g (.int .i64 (wrap64 (n : Int))) r1 e1 W) := fun W hb => by
    have h := rfInt_any g rest e W (hr.below hb)
    rwa [hst] at h
  have d1 : (wrap64 (n : Int) == 1) = false := by rw [hk]; rfl
  have d2 : (wrap64 (n : Int) == 2) = false := by rw [hk]; rfl
  have d3 : (wrap64 (n : Int) == 3) = true := by rw [hk]; rfl
  have d4 : (wrap64 (n : Int) == 4) = false := by rw [hk]; rfl
  have d9 : (e2 != 0) = false := by simp [he2]
  have q2 : ∀ W, RfS W g r1 e1 → Calls Try.prog 70 #[.pointer (some ⟨g, 0, none⟩), .int .i64 32] W (DidRN g m r2 e2 W) := fun W h => by
    have h := rfBytes_any g r1 e1 32 (by decide) (by decide) W h
    rwa [ht] at h
  clear ht he2
  have Q2 := Lib.hid q2
  clear q2 hk
  subst he
  have HW0 := Lib.hid ((Below.refl w.heap.size w).alloc (Nat.le_refl _) (.cells #[.int .i64 0, .int .i64 0, .bool false, .string ⟨#[]⟩, .float .f64 0] 24))
  have hne : w.heap.size ≠ g := by omega
  have HB0 := Lib.hid (show Bh (w.alloc (.cells #[.int .i64 0, .int .i64 0, .bool false, .string ⟨#[]⟩, .float .f64 0] 24)) w.heap.size vZero from heap_alloc_new w _)
  have Q1 := Lib.hid q1
  have HG := Lib.hid hgl
  clear q1 hr hst hgl
  have hsf := fun (w : World) (a : Addr) (m : Mode) (b : Nat) => run_store Try.prog w a (.float .f64 b) m rfl
  go_enter Try.func34, Try.ntmps34
  go_wp2_with fail
  refine (Q1.out _ HW0.out).mono ?_
  rintro e wA ⟨rfl, hr1, ho1⟩
  have hzA : w.heap.size < wA.heap.size := by have := ho1.size; simp at this; omega
  have hgA : g < wA.heap.size := hr1.lt
  have hbl : Below wA.heap.size wA (wA.alloc (.cells #[.int .i64 0, .int .i64 0, .bool false, .string ⟨#[]⟩, .float .f64 0] 24)) := (Below.refl _ _).alloc (Nat.le_refl _) _
  have HO1 := Lib.hid ((Only.trans' (w := w) HW0.out ho1).below hbl)
  have HN1 := Lib.hid ((HB0.out.only ho1 hne).below hbl)
  have HM1 := Lib.hid (show Bh (wA.alloc (.cells #[.int .i64 0, .int .i64 0, .bool false, .string ⟨#[]⟩, .float .f64 0] 24)) wA.heap.size vZero from heap_alloc_new wA _)
  have HR1 := Lib.hid (hr1.below hbl)
  have hgM : wA.heap.size ≠ g := by omega
  have hgL : g < wA.heap.size := hgA
  have hwM : w.heap.size ≤ wA.heap.size := by omega
  have hNM : w.heap.size ≠ wA.heap.size := by omega
  clear hr1 ho1 hbl hzA hgA
  go_upto_region 3 with fail
  generalize wA.alloc (.cells #[.int .i64 0, .int .i64 0, .bool false, .string ⟨#[]⟩, .float .f64 0] 24) = wc at *
  generalize wA.heap.size = bm at *
  have hge := HR1.out.err
  obtain ⟨m_0, m_1, m_2, m_3, m_4⟩ := HM1.out.bx
  have mf_ := HM1.out.free
  go_wp2_with fail
  refine (Q2.out _ HR1.out).mono ?_
  rintro e wB ⟨u, rfl, hu, hr2, ho2, -⟩
  have hcv : (convert 42 9 u).run Try.prog wB = .ok (.string (strB m)) wB := run_str hu
  clear m_0 m_1 m_2 m_3 m_4 mf_ hge
  have HO2 := Lib.hid (HO1.out.trans ho2)
  have HN2 := Lib.hid (HN1.out.only ho2 hne)
  have HM2 := Lib.hid (HM1.out.only ho2 hgM)
  have HR2 := Lib.hid hr2
  clear hr2 ho2
  obtain ⟨p0, p1, p2, p3, p4⟩ := HM2.out.bx
  have pf := HM2.out.free
  go_upto_region 15 with fail
  have HM3 := Lib.hid (HM2.out.set5 (⟨3, 0, false, strB m, 0⟩))
  have HN3 := Lib.hid (HN2.out.only (only_self5 bm wB (.int .i64 (⟨3, 0, false, strB m, 0⟩ : Vl).k) (.int .i64 (⟨3, 0, false, strB m, 0⟩ : Vl).i) (.bool (⟨3, 0, false, strB m, 0⟩ : Vl).b) (.string (⟨3, 0, false, strB m, 0⟩ : Vl).s) (.float .f64 (⟨3, 0, false, strB m, 0⟩ : Vl).n)) hNM)
  have HR3 := Lib.hid (HR2.out.off (only_self5 bm wB (.int .i64 (⟨3, 0, false, strB m, 0⟩ : Vl).k) (.int .i64 (⟨3, 0, false, strB m, 0⟩ : Vl).i) (.bool (⟨3, 0, false, strB m, 0⟩ : Vl).b) (.string (⟨3, 0, false, strB m, 0⟩ : Vl).s) (.float .f64 (⟨3, 0, false, strB m, 0⟩ : Vl).n)) hgL HM2.out)
  have HO3 := Lib.hid (Only.set5 HO2.out hwM (.int .i64 (⟨3, 0, false, strB m, 0⟩ : Vl).k) (.int .i64 (⟨3, 0, false, strB m, 0⟩ : Vl).i) (.bool (⟨3, 0, false, strB m, 0⟩ : Vl).b) (.string (⟨3, 0, false, strB m, 0⟩ : Vl).s) (.float .f64 (⟨3, 0, false, strB m, 0⟩ : Vl).n))
  simp only at HM3 HN3 HR3 HO3
  clear p0 p1 p2 p3 p4 pf
  generalize (((((wB.setCell ⟨bm, 0, none⟩ _).setCell ⟨bm, 1, none⟩ _).setCell ⟨bm, 2, none⟩ _).setCell ⟨bm, 3, none⟩ _).setCell ⟨bm, 4, none⟩ _) = wd at *
  have hge := HR3.out.err
  obtain ⟨c0, c1, c2, c3, c4⟩ := HN3.out.bx
  have cf := HN3.out.free
  obtain ⟨p0, p1, p2, p3, p4⟩ := HM3.out.bx
  have pf := HM3.out.free
  simp only at p0 p1 p2 p3 p4
  go_wp2
  exact bodyPost_ret (v := pairVE (⟨3, 0, false, strB m, 0⟩) 0) (by simp [results, Try.results34, go_sem, c0, c1, c2, c3, c4]) rfl (GetR.mk (w := w) rfl HR3.out HO3.out HG.out HN3.out _ _ _ _ _)

set_option maxHeartbeats 4000000 in
theorem rGet_3no (g : Nat) (rest : List UInt8) (e : Int) (n : Nat) (r1 : List UInt8) (e1 : Int) (hst : stepF 8 alInt rest e = (n, r1, e1)) (w : World) (hr : RfS w g rest e) (he : e1 = 0) (hk : wrap64 (n : Int) = 3) (m : List UInt8) (r2 : List UInt8) (e2 : Int) (ht : bytesF 32 r1 e1 = (m, r2, e2)) (he2 : e2 ≠ 0) : Calls Try.prog 34 #[.pointer (some ⟨g, 0, none⟩)] w (GetR g vZero e2 r2 e2 w) := by
  have hgl := hr.lt
  have q1 : ∀ W, Below w.heap.size w W → Calls Try.prog 67 #[.pointer (some ⟨g, 0, none⟩)] W (DidR g (.int .i64 (wrap64 (n : Int))) r1 e1 W) := fun W hb => by
    have h := rfInt_any g rest e W (hr.below hb)
    rwa [hst] at h
  have d1 : (wrap64 (n : Int) == 1) = false := by rw [hk]; rfl
  have d2 : (wrap64 (n : Int) == 2) = false := by rw [hk]; rfl
  have d3 : (wrap64 (n : Int) == 3) = true := by rw [hk]; rfl
  have d4 : (wrap64 (n : Int) == 4) = false := by rw [hk]; rfl
  have d9 : (e2 != 0) = true := by simpa using he2
  have q2 : ∀ W, RfS W g r1 e1 → Calls Try.prog 70 #[.pointer (some ⟨g, 0, none⟩), .int .i64 32] W (DidRN g m r2 e2 W) := fun W h => by
    have h := rfBytes_any g r1 e1 32 (by decide) (by decide) W h
    rwa [ht] at h
  clear ht he2
  have Q2 := Lib.hid q2
  clear q2 hk
  subst he
  have HW0 := Lib.hid ((Below.refl w.heap.size w).alloc (Nat.le_refl _) (.cells #[.int .i64 0, .int .i64 0, .bool false, .string ⟨#[]⟩, .float .f64 0] 24))
  have hne : w.heap.size ≠ g := by omega
  have HB0 := Lib.hid (show Bh (w.alloc (.cells #[.int .i64 0, .int .i64 0, .bool false, .string ⟨#[]⟩, .float .f64 0] 24)) w.heap.size vZero from heap_alloc_new w _)
  have Q1 := Lib.hid q1
  have HG := Lib.hid hgl
  clear q1 hr hst hgl
  have hsf := fun (w : World) (a : Addr) (m : Mode) (b : Nat) => run_store Try.prog w a (.float .f64 b) m rfl
  go_enter Try.func34, Try.ntmps34
  go_wp2_with fail
  refine (Q1.out _ HW0.out).mono ?_
  rintro e wA ⟨rfl, hr1, ho1⟩
  have hzA : w.heap.size < wA.heap.size := by have := ho1.size; simp at this; omega
  have hgA : g < wA.heap.size := hr1.lt
  have hbl : Below wA.heap.size wA (wA.alloc (.cells #[.int .i64 0, .int .i64 0, .bool false, .string ⟨#[]⟩, .float .f64 0] 24)) := (Below.refl _ _).alloc (Nat.le_refl _) _
  have HO1 := Lib.hid ((Only.trans' (w := w) HW0.out ho1).below hbl)
  have HN1 := Lib.hid ((HB0.out.only ho1 hne).below hbl)
  have HM1 := Lib.hid (show Bh (wA.alloc (.cells #[.int .i64 0, .int .i64 0, .bool false, .string ⟨#[]⟩, .float .f64 0] 24)) wA.heap.size vZero from heap_alloc_new wA _)
  have HR1 := Lib.hid (hr1.below hbl)
  have hgM : wA.heap.size ≠ g := by omega
  have hgL : g < wA.heap.size := hgA
  have hwM : w.heap.size ≤ wA.heap.size := by omega
  have hNM : w.heap.size ≠ wA.heap.size := by omega
  clear hr1 ho1 hbl hzA hgA
  go_upto_region 3 with fail
  generalize wA.alloc (.cells #[.int .i64 0, .int .i64 0, .bool false, .string ⟨#[]⟩, .float .f64 0] 24) = wc at *
  generalize wA.heap.size = bm at *
  have hge := HR1.out.err
  obtain ⟨m_0, m_1, m_2, m_3, m_4⟩ := HM1.out.bx
  have mf_ := HM1.out.free
  go_wp2_with fail
  refine (Q2.out _ HR1.out).mono ?_
  rintro e wB ⟨u, rfl, hu, hr2, ho2, -⟩
  have hcv : (convert 42 9 u).run Try.prog wB = .ok (.string (strB m)) wB := run_str hu
  clear m_0 m_1 m_2 m_3 m_4 mf_ hge
  have HO2 := Lib.hid (HO1.out.trans ho2)
  have HN2 := Lib.hid (HN1.out.only ho2 hne)
  have HM2 := Lib.hid (HM1.out.only ho2 hgM)
  have HR2 := Lib.hid hr2
  clear hr2 ho2
  obtain ⟨p0, p1, p2, p3, p4⟩ := HM2.out.bx
  have pf := HM2.out.free
  go_upto_region 15 with fail
  have HM3 := Lib.hid (HM2.out.set5 (⟨3, 0, false, strB m, 0⟩))
  have HN3 := Lib.hid (HN2.out.only (only_self5 bm wB (.int .i64 (⟨3, 0, false, strB m, 0⟩ : Vl).k) (.int .i64 (⟨3, 0, false, strB m, 0⟩ : Vl).i) (.bool (⟨3, 0, false, strB m, 0⟩ : Vl).b) (.string (⟨3, 0, false, strB m, 0⟩ : Vl).s) (.float .f64 (⟨3, 0, false, strB m, 0⟩ : Vl).n)) hNM)
  have HR3 := Lib.hid (HR2.out.off (only_self5 bm wB (.int .i64 (⟨3, 0, false, strB m, 0⟩ : Vl).k) (.int .i64 (⟨3, 0, false, strB m, 0⟩ : Vl).i) (.bool (⟨3, 0, false, strB m, 0⟩ : Vl).b) (.string (⟨3, 0, false, strB m, 0⟩ : Vl).s) (.float .f64 (⟨3, 0, false, strB m, 0⟩ : Vl).n)) hgL HM2.out)
  have HO3 := Lib.hid (Only.set5 HO2.out hwM (.int .i64 (⟨3, 0, false, strB m, 0⟩ : Vl).k) (.int .i64 (⟨3, 0, false, strB m, 0⟩ : Vl).i) (.bool (⟨3, 0, false, strB m, 0⟩ : Vl).b) (.string (⟨3, 0, false, strB m, 0⟩ : Vl).s) (.float .f64 (⟨3, 0, false, strB m, 0⟩ : Vl).n))
  simp only at HM3 HN3 HR3 HO3
  clear p0 p1 p2 p3 p4 pf
  generalize (((((wB.setCell ⟨bm, 0, none⟩ _).setCell ⟨bm, 1, none⟩ _).setCell ⟨bm, 2, none⟩ _).setCell ⟨bm, 3, none⟩ _).setCell ⟨bm, 4, none⟩ _) = wd at *
  have hge := HR3.out.err
  obtain ⟨c0, c1, c2, c3, c4⟩ := HN3.out.bx
  have cf := HN3.out.free
  obtain ⟨p0, p1, p2, p3, p4⟩ := HM3.out.bx
  have pf := HM3.out.free
  simp only at p0 p1 p2 p3 p4
  go_wp2
  go_region
  all_goals
    go_wp2
    exact bodyPost_ret (v := pairVE vZero e2) (by simp [results, Try.results34, go_sem, c0, c1, c2, c3, c4]) rfl (GetR.drew (GetR.mk (w := w) rfl HR3.out HO3.out HG.out HN3.out _ _ _ _ _))

set_option maxHeartbeats 4000000 in
theorem rGet_4ok (g : Nat) (rest : List UInt8) (e : Int) (n : Nat) (r1 : List UInt8) (e1 : Int) (hst : stepF 8 alInt rest e = (n, r1, e1)) (w : World) (hr : RfS w g rest e) (he : e1 = 0) (hk : wrap64 (n : Int) = 4) (m : Nat) (r2 : List UInt8) (e2 : Int) (ht : stepF 8 alNum r1 e1 = (m, r2, e2)) (he2 : e2 = 0) : Calls Try.prog 34 #[.pointer (some ⟨g, 0, none⟩)] w (GetR g (vNum m) 0 r2 e2 w) := by
  have hgl := hr.lt
  have q1 : ∀ W, Below w.heap.size w W → Calls Try.prog 67 #[.pointer (some ⟨g, 0, none⟩)] W (DidR g (.int .i64 (wrap64 (n : Int))) r1 e1 W) := fun W hb => by
    have h := rfInt_any g rest e W (hr.below hb)
    rwa [hst] at h
  have d1 : (wrap64 (n : Int) == 1) = false := by rw [hk]; rfl
  have d2 : (wrap64 (n : Int) == 2) = false := by rw [hk]; rfl
  have d3 : (wrap64 (n : Int) == 3) = false := by rw [hk]; rfl
  have d4 : (wrap64 (n : Int) == 4) = true := by rw [hk]; rfl
  have d9 : (e2 != 0) = false := by simp [he2]
  have q2 : ∀ W, RfS W g r1 e1 → Calls Try.prog 71 #[.pointer (some ⟨g, 0, none⟩)] W (DidR g (.float .f64 m) r2 e2 W) := fun W h => by
    have h := rfNum_any g r1 e1 W h
    rwa [ht] at h
  have hms := num_same r1 e1
  rw [ht] at hms
  simp only at hms
  have hnv : ∀ W, Calls Try.prog 40 #[.float .f64 m] W (VMk (agV (vNum m)) W) := fun W => by
    have h := rNumV_any m W
    rwa [hms] at h
  have HNV := Lib.hid hnv
  clear hms hnv
  clear ht he2
  have Q2 := Lib.hid q2
  clear q2 hk
  subst he
  have HW0 := Lib.hid ((Below.refl w.heap.size w).alloc (Nat.le_refl _) (.cells #[.int .i64 0, .int .i64 0, .bool false, .string ⟨#[]⟩, .float .f64 0] 24))
  have hne : w.heap.size ≠ g := by omega
  have HB0 := Lib.hid (show Bh (w.alloc (.cells #[.int .i64 0, .int .i64 0, .bool false, .string ⟨#[]⟩, .float .f64 0] 24)) w.heap.size vZero from heap_alloc_new w _)
  have Q1 := Lib.hid q1
  have HG := Lib.hid hgl
  clear q1 hr hst hgl
  have hsf := fun (w : World) (a : Addr) (m : Mode) (b : Nat) => run_store Try.prog w a (.float .f64 b) m rfl
  go_enter Try.func34, Try.ntmps34
  go_wp2_with fail
  refine (Q1.out _ HW0.out).mono ?_
  rintro e wA ⟨rfl, hr1, ho1⟩
  have hzA : w.heap.size < wA.heap.size := by have := ho1.size; simp at this; omega
  have hgA : g < wA.heap.size := hr1.lt
  have hbl : Below wA.heap.size wA (wA.alloc (.cells #[.int .i64 0, .int .i64 0, .bool false, .string ⟨#[]⟩, .float .f64 0] 24)) := (Below.refl _ _).alloc (Nat.le_refl _) _
  have HO1 := Lib.hid ((Only.trans' (w := w) HW0.out ho1).below hbl)
  have HN1 := Lib.hid ((HB0.out.only ho1 hne).below hbl)
  have HM1 := Lib.hid (show Bh (wA.alloc (.cells #[.int .i64 0, .int .i64 0, .bool false, .string ⟨#[]⟩, .float .f64 0] 24)) wA.heap.size vZero from heap_alloc_new wA _)
  have HR1 := Lib.hid (hr1.below hbl)
  have hgM : wA.heap.size ≠ g := by omega
  have hgL : g < wA.heap.size := hgA
  have hwM : w.heap.size ≤ wA.heap.size := by omega
  have hNM : w.heap.size ≠ wA.heap.size := by omega
  clear hr1 ho1 hbl hzA hgA
  go_upto_region 3 with fail
  generalize wA.alloc (.cells #[.int .i64 0, .int .i64 0, .bool false, .string ⟨#[]⟩, .float .f64 0] 24) = wc at *
  generalize wA.heap.size = bm at *
  have hge := HR1.out.err
  obtain ⟨m_0, m_1, m_2, m_3, m_4⟩ := HM1.out.bx
  have mf_ := HM1.out.free
  go_wp2_with fail
  refine (Q2.out _ HR1.out).mono ?_
  rintro e wB ⟨rfl, hr2, ho2⟩
  clear m_0 m_1 m_2 m_3 m_4 mf_ hge
  have HO2 := Lib.hid (HO1.out.trans ho2)
  have HN2 := Lib.hid (HN1.out.only ho2 hne)
  have HM2 := Lib.hid (HM1.out.only ho2 hgM)
  have HR2 := Lib.hid hr2
  clear hr2 ho2
  go_wp2_with fail
  refine (HNV.out _).mono ?_
  rintro e wD ⟨rfl, hbD⟩
  have HO2 := Lib.hid (Only.below HO2.out hbD)
  have HN2 := Lib.hid (HN2.out.below hbD)
  have HM2 := Lib.hid (HM2.out.below hbD)
  have HR2 := Lib.hid (HR2.out.below hbD)
  clear hbD
  obtain ⟨p0, p1, p2, p3, p4⟩ := HM2.out.bx
  have pf := HM2.out.free
  go_upto_region 15 with fail
  have HM3 := Lib.hid (HM2.out.set5 (vNum m))
  have HN3 := Lib.hid (HN2.out.only (only_self5 bm wD (.int .i64 (vNum m).k) (.int .i64 (vNum m).i) (.bool (vNum m).b) (.string (vNum m).s) (.float .f64 (vNum m).n)) hNM)
  have HR3 := Lib.hid (HR2.out.off (only_self5 bm wD (.int .i64 (vNum m).k) (.int .i64 (vNum m).i) (.bool (vNum m).b) (.string (vNum m).s) (.float .f64 (vNum m).n)) hgL HM2.out)
  have HO3 := Lib.hid (Only.set5 HO2.out hwM (.int .i64 (vNum m).k) (.int .i64 (vNum m).i) (.bool (vNum m).b) (.string (vNum m).s) (.float .f64 (vNum m).n))
  simp only at HM3 HN3 HR3 HO3
  clear p0 p1 p2 p3 p4 pf
  generalize (((((wD.setCell ⟨bm, 0, none⟩ _).setCell ⟨bm, 1, none⟩ _).setCell ⟨bm, 2, none⟩ _).setCell ⟨bm, 3, none⟩ _).setCell ⟨bm, 4, none⟩ _) = wd at *
  have hge := HR3.out.err
  obtain ⟨c0, c1, c2, c3, c4⟩ := HN3.out.bx
  have cf := HN3.out.free
  obtain ⟨p0, p1, p2, p3, p4⟩ := HM3.out.bx
  have pf := HM3.out.free
  simp only at p0 p1 p2 p3 p4
  go_wp2
  exact bodyPost_ret (v := pairVE (vNum m) 0) (by simp [results, Try.results34, go_sem, c0, c1, c2, c3, c4]) rfl (GetR.mk (w := w) rfl HR3.out HO3.out HG.out HN3.out _ _ _ _ _)

set_option maxHeartbeats 4000000 in
theorem rGet_4no (g : Nat) (rest : List UInt8) (e : Int) (n : Nat) (r1 : List UInt8) (e1 : Int) (hst : stepF 8 alInt rest e = (n, r1, e1)) (w : World) (hr : RfS w g rest e) (he : e1 = 0) (hk : wrap64 (n : Int) = 4) (m : Nat) (r2 : List UInt8) (e2 : Int) (ht : stepF 8 alNum r1 e1 = (m, r2, e2)) (he2 : e2 ≠ 0) : Calls Try.prog 34 #[.pointer (some ⟨g, 0, none⟩)] w (GetR g vZero e2 r2 e2 w) := by
  have hgl := hr.lt
  have q1 : ∀ W, Below w.heap.size w W → Calls Try.prog 67 #[.pointer (some ⟨g, 0, none⟩)] W (DidR g (.int .i64 (wrap64 (n : Int))) r1 e1 W) := fun W hb => by
    have h := rfInt_any g rest e W (hr.below hb)
    rwa [hst] at h
  have d1 : (wrap64 (n : Int) == 1) = false := by rw [hk]; rfl
  have d2 : (wrap64 (n : Int) == 2) = false := by rw [hk]; rfl
  have d3 : (wrap64 (n : Int) == 3) = false := by rw [hk]; rfl
  have d4 : (wrap64 (n : Int) == 4) = true := by rw [hk]; rfl
  have d9 : (e2 != 0) = true := by simpa using he2
  have q2 : ∀ W, RfS W g r1 e1 → Calls Try.prog 71 #[.pointer (some ⟨g, 0, none⟩)] W (DidR g (.float .f64 m) r2 e2 W) := fun W h => by
    have h := rfNum_any g r1 e1 W h
    rwa [ht] at h
  have hms := num_same r1 e1
  rw [ht] at hms
  simp only at hms
  have hnv : ∀ W, Calls Try.prog 40 #[.float .f64 m] W (VMk (agV (vNum m)) W) := fun W => by
    have h := rNumV_any m W
    rwa [hms] at h
  have HNV := Lib.hid hnv
  clear hms hnv
  clear ht he2
  have Q2 := Lib.hid q2
  clear q2 hk
  subst he
  have HW0 := Lib.hid ((Below.refl w.heap.size w).alloc (Nat.le_refl _) (.cells #[.int .i64 0, .int .i64 0, .bool false, .string ⟨#[]⟩, .float .f64 0] 24))
  have hne : w.heap.size ≠ g := by omega
  have HB0 := Lib.hid (show Bh (w.alloc (.cells #[.int .i64 0, .int .i64 0, .bool false, .string ⟨#[]⟩, .float .f64 0] 24)) w.heap.size vZero from heap_alloc_new w _)
  have Q1 := Lib.hid q1
  have HG := Lib.hid hgl
  clear q1 hr hst hgl
  have hsf := fun (w : World) (a : Addr) (m : Mode) (b : Nat) => run_store Try.prog w a (.float .f64 b) m rfl
  go_enter Try.func34, Try.ntmps34
  go_wp2_with fail
  refine (Q1.out _ HW0.out).mono ?_
  rintro e wA ⟨rfl, hr1, ho1⟩
  have hzA : w.heap.size < wA.heap.size := by have := ho1.size; simp at this; omega
  have hgA : g < wA.heap.size := hr1.lt
  have hbl : Below wA.heap.size wA (wA.alloc (.cells #[.int .i64 0, .int .i64 0, .bool false, .string ⟨#[]⟩, .float .f64 0] 24)) := (Below.refl _ _).alloc (Nat.le_refl _) _
  have HO1 := Lib.hid ((Only.trans' (w := w) HW0.out ho1).below hbl)
  have HN1 := Lib.hid ((HB0.out.only ho1 hne).below hbl)
  have HM1 := Lib.hid (show Bh (wA.alloc (.cells #[.int .i64 0, .int .i64 0, .bool false, .string ⟨#[]⟩, .float .f64 0] 24)) wA.heap.size vZero from heap_alloc_new wA _)
  have HR1 := Lib.hid (hr1.below hbl)
  have hgM : wA.heap.size ≠ g := by omega
  have hgL : g < wA.heap.size := hgA
  have hwM : w.heap.size ≤ wA.heap.size := by omega
  have hNM : w.heap.size ≠ wA.heap.size := by omega
  clear hr1 ho1 hbl hzA hgA
  go_upto_region 3 with fail
  generalize wA.alloc (.cells #[.int .i64 0, .int .i64 0, .bool false, .string ⟨#[]⟩, .float .f64 0] 24) = wc at *
  generalize wA.heap.size = bm at *
  have hge := HR1.out.err
  obtain ⟨m_0, m_1, m_2, m_3, m_4⟩ := HM1.out.bx
  have mf_ := HM1.out.free
  go_wp2_with fail
  refine (Q2.out _ HR1.out).mono ?_
  rintro e wB ⟨rfl, hr2, ho2⟩
  clear m_0 m_1 m_2 m_3 m_4 mf_ hge
  have HO2 := Lib.hid (HO1.out.trans ho2)
  have HN2 := Lib.hid (HN1.out.only ho2 hne)
  have HM2 := Lib.hid (HM1.out.only ho2 hgM)
  have HR2 := Lib.hid hr2
  clear hr2 ho2
  go_wp2_with fail
  refine (HNV.out _).mono ?_
  rintro e wD ⟨rfl, hbD⟩
  have HO2 := Lib.hid (Only.below HO2.out hbD)
  have HN2 := Lib.hid (HN2.out.below hbD)
  have HM2 := Lib.hid (HM2.out.below hbD)
  have HR2 := Lib.hid (HR2.out.below hbD)
  clear hbD
  obtain ⟨p0, p1, p2, p3, p4⟩ := HM2.out.bx
  have pf := HM2.out.free
  go_upto_region 15 with fail
  have HM3 := Lib.hid (HM2.out.set5 (vNum m))
  have HN3 := Lib.hid (HN2.out.only (only_self5 bm wD (.int .i64 (vNum m).k) (.int .i64 (vNum m).i) (.bool (vNum m).b) (.string (vNum m).s) (.float .f64 (vNum m).n)) hNM)
  have HR3 := Lib.hid (HR2.out.off (only_self5 bm wD (.int .i64 (vNum m).k) (.int .i64 (vNum m).i) (.bool (vNum m).b) (.string (vNum m).s) (.float .f64 (vNum m).n)) hgL HM2.out)
  have HO3 := Lib.hid (Only.set5 HO2.out hwM (.int .i64 (vNum m).k) (.int .i64 (vNum m).i) (.bool (vNum m).b) (.string (vNum m).s) (.float .f64 (vNum m).n))
  simp only at HM3 HN3 HR3 HO3
  clear p0 p1 p2 p3 p4 pf
  generalize (((((wD.setCell ⟨bm, 0, none⟩ _).setCell ⟨bm, 1, none⟩ _).setCell ⟨bm, 2, none⟩ _).setCell ⟨bm, 3, none⟩ _).setCell ⟨bm, 4, none⟩ _) = wd at *
  have hge := HR3.out.err
  obtain ⟨c0, c1, c2, c3, c4⟩ := HN3.out.bx
  have cf := HN3.out.free
  obtain ⟨p0, p1, p2, p3, p4⟩ := HM3.out.bx
  have pf := HM3.out.free
  simp only at p0 p1 p2 p3 p4
  go_wp2
  go_region
  all_goals
    go_wp2
    exact bodyPost_ret (v := pairVE vZero e2) (by simp [results, Try.results34, go_sem, c0, c1, c2, c3, c4]) rfl (GetR.drew (GetR.mk (w := w) rfl HR3.out HO3.out HG.out HN3.out _ _ _ _ _))

end Go.Proofs.Ytlnpolepgdoloaa
