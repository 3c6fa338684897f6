/- Layer 4: values out of bytes, by the program. (Made by gen/genvget.py.) -/
import Derived.Test.YtlnpolepgdoloaaVNan
import Derived.Test.YtlnpolepgdoloaaRefC
namespace Go.Proofs.Ytlnpolepgdoloaa
open Go.RowKit
set_option linter.unusedVariables false
set_option linter.unusedSimpArgs false
set_option maxRecDepth 20000

/-- 4.5: what stands there as it is read, what is left, the reader's error -/
def readF (rest : List UInt8) (e : Int) : Vl × List UInt8 × Int :=
  if wrap64 ((stepF 8 alInt rest e).1 : Int) = 1 then (vInt (wrap64 ((stepF 8 alInt (stepF 8 alInt rest e).2.1 (stepF 8 alInt rest e).2.2).1 : Int)), (stepF 8 alInt (stepF 8 alInt rest e).2.1 (stepF 8 alInt rest e).2.2).2)
  else if wrap64 ((stepF 8 alInt rest e).1 : Int) = 2 then (vTruth (decide ((stepF 1 alBool (stepF 8 alInt rest e).2.1 (stepF 8 alInt rest e).2.2).1 = 1)), (stepF 1 alBool (stepF 8 alInt rest e).2.1 (stepF 8 alInt rest e).2.2).2)
  else if wrap64 ((stepF 8 alInt rest e).1 : Int) = 3 then (⟨3, 0, false, strB (bytesF 32 (stepF 8 alInt rest e).2.1 (stepF 8 alInt rest e).2.2).1, 0⟩, (bytesF 32 (stepF 8 alInt rest e).2.1 (stepF 8 alInt rest e).2.2).2)
  else if wrap64 ((stepF 8 alInt rest e).1 : Int) = 4 then (vNum (stepF 8 alNum (stepF 8 alInt rest e).2.1 (stepF 8 alInt rest e).2.2).1, (stepF 8 alNum (stepF 8 alInt rest e).2.1 (stepF 8 alInt rest e).2.2).2)
  else (vZero, (stepF 8 alInt rest e).2)
/-- .. and what Get tells of it -/
def getV (rest : List UInt8) (e : Int) : Vl := if (readF rest e).2.2 = 0 then (readF rest e).1 else vZero
def getE (rest : List UInt8) (e : Int) : Int := if (readF rest e).2.2 = 0 then (if (readF rest e).1.k = 0 then 12 else 0) else (readF rest e).2.2

/-- a block but the one that was written is as it was -/
theorem only_at {g b : Nat} {W W' : World} (ho : Only g W W') (hb : b < W.heap.size) (hne : b ≠ g) : (∀ j, W'.cell? ⟨b, j, none⟩ = W.cell? ⟨b, j, none⟩) ∧ (∀ j, W'.frozen? ⟨b, j, none⟩ = W.frozen? ⟨b, j, none⟩) := by
  have h := ho.block b hb (by intro e; injection e with e; exact hne e)
  exact ⟨fun j => World.cell?_of_block (a := ⟨b, j, none⟩) h, fun j => World.frozen?_of_block (a := ⟨b, j, none⟩) h⟩
theorem Only.setNew {g k : Nat} {a w : World} (h : Only g a w) (hk : a.heap.size ≤ k) (j : Nat) (u : Value) : Only g a (w.setCell ⟨k, j, none⟩ u) :=
  ⟨h.os, h.tape, h.output, by simpa [World.setCell] using h.size, fun m hm hne => (Below.heap_setCell w _ u m (by intro e; simp only at e; omega)).trans (h.block m hm hne)⟩
theorem Only.set5 {g k : Nat} {a w : World} (h : Only g a w) (hk : a.heap.size ≤ k) (u0 u1 u2 u3 u4 : Value) :
    Only g a (((((w.setCell ⟨k, 0, none⟩ u0).setCell ⟨k, 1, none⟩ u1).setCell ⟨k, 2, none⟩ u2).setCell ⟨k, 3, none⟩ u3).setCell ⟨k, 4, none⟩ u4) :=
  ((((h.setNew hk 0 u0).setNew hk 1 u1).setNew hk 2 u2).setNew hk 3 u3).setNew hk 4 u4
theorem only_self5 (k : Nat) (w : World) (u0 u1 u2 u3 u4 : Value) :
    Only k w (((((w.setCell ⟨k, 0, none⟩ u0).setCell ⟨k, 1, none⟩ u1).setCell ⟨k, 2, none⟩ u2).setCell ⟨k, 3, none⟩ u3).setCell ⟨k, 4, none⟩ u4) :=
  (((((Only.refl k w).set 0 u0).set 1 u1).set 2 u2).set 3 u3).set 4 u4
theorem Only.trans' {g : Nat} {w W W' : World} (h : Below w.heap.size w W) (ho : Only g W W') : Only g w W' := ((Only.refl g w).below h).trans ho
/-- bytes do not lie in a block of values -/
theorem Bt.off {w w' : World} {N : Nat} {v : Value} {l : List UInt8} {cs : Array Value} {fr : Nat × Nat} (h : Bt w v l) (ho : Only N w w') (hN : w.heap[N]? = some (.cells cs 24 fr)) : Bt w' v l := by
  obtain ⟨⟨A, c, hv, hc, hm, hn, hx⟩, hy⟩ := h
  by_cases hl : l = []
  · subst hl
    exact ⟨⟨A, c, hv, hc, hm, hn, fun he => absurd rfl he⟩, fun he => absurd rfl he⟩
  · have hl' : l.map bc ≠ [] := by simpa using hl
    obtain ⟨ad, ha, hb, hr⟩ := hx hl'
    have hown : v.ownBlock = some ad.block := by rw [hv, ha]; rfl
    obtain ⟨cs2, fr2, hty⟩ := hy hl ad.block hown
    have hne : ad.block ≠ N := by
      intro e
      rw [e, hN] at hty
      injection hty with hty
      injection hty with h1 h2 h3
      exact absurd h2 (by decide)
    have hblk := ho.block ad.block hb (by intro e; injection e with e; exact hne e)
    refine ⟨⟨A, c, hv, hc, hm, hn, fun _ => ⟨ad, ha, Nat.lt_of_lt_of_le hb ho.size, fun j u hu => ?_⟩⟩, fun _ k hk => ?_⟩
    · have hb2 : (ad.add j).block = ad.block := block_add ad j
      exact (World.cell?_of_block (w := w) (w' := w') (a := ad.add j) (by rw [hb2]; exact hblk)).trans (hr j u hu)
    · rw [hown] at hk
      injection hk with hk
      subst hk
      exact ⟨cs2, fr2, hblk.trans hty⟩
theorem RdR.off {w w' : World} {N g : Nat} {rest : List UInt8} {err : Int} {cs : Array Value} {fr : Nat × Nat} (h : RdR w g rest err) (ho : Only N w w') (hne : g ≠ N) (hN : w.heap[N]? = some (.cells cs 24 fr)) : RdR w' g rest err := by
  have hlt := h.lt
  obtain ⟨rv, hh, hb⟩ := h
  exact ⟨rv, (ho.block g hlt (by intro e; injection e with e; exact hne e)).trans hh, hb.off ho hN⟩
theorem Bs.offN {w w' : World} {N : Nat} {v : Value} {l : List UInt8} (h : Bs w v l) (ho : Only N w w') (hN : l ≠ [] → ∀ k, v.ownBlock = some k → k ≠ N) : Bs w' v l := by
  obtain ⟨A, c, hv, hc, hm, hn, hx⟩ := h
  by_cases hl : l = []
  · subst hl
    exact ⟨A, c, hv, hc, hm, hn, fun he => absurd rfl he⟩
  · have hl' : l.map bc ≠ [] := by simpa using hl
    obtain ⟨ad, ha, hb, hr⟩ := hx hl'
    have hown : v.ownBlock = some ad.block := by rw [hv, ha]; rfl
    have hne := hN hl ad.block hown
    have hblk := ho.block ad.block hb (by intro e; injection e with e; exact hne e)
    refine ⟨A, c, hv, hc, hm, hn, fun _ => ⟨ad, ha, Nat.lt_of_lt_of_le hb ho.size, fun j u hu => ?_⟩⟩
    have hb2 : (ad.add j).block = ad.block := block_add ad j
    exact (World.cell?_of_block (w := w) (w' := w') (a := ad.add j) (by rw [hb2]; exact hblk)).trans (hr j u hu)
theorem Bq.off {w w' : World} {N g : Nat} {v : Value} {l : List UInt8} {cs : Array Value} {fr : Nat × Nat} (h : Bq g w v l) (ho : Only N w w') (hlt : g < N) (hN : w.heap[N]? = some (.cells cs 24 fr)) : Bq g w' v l := by
  rcases h with ⟨h1, h2 | h2⟩
  · exact (Bt.off ⟨h1, h2⟩ ho hN).bq
  · exact ⟨h1.offN ho (fun hl k hk e => by have := h2 hl k hk; omega), Or.inr h2⟩
theorem RfS.off {w w' : World} {N g : Nat} {rest : List UInt8} {err : Int} {cs : Array Value} {fr : Nat × Nat} (h : RfS w g rest err) (ho : Only N w w') (hlt : g < N) (hN : w.heap[N]? = some (.cells cs 24 fr)) : RfS w' g rest err := by
  have hgl := h.lt
  obtain ⟨bs, i, ⟨bv, hh, hb, h1, h2⟩, h3⟩ := h
  exact ⟨bs, i, ⟨bv, (ho.block g hgl (by intro e; injection e with e; omega)).trans hh, hb.off ho hlt hN, h1, h2⟩, h3⟩

/-- what read answers -/
def ReadP (g : Nat) (r : Vl × List UInt8 × Int) (w : World) (e : Ending) (w' : World) : Prop := e = .returned (agV r.1) ∧ RdR w' g r.2.1 r.2.2 ∧ Only g w w'
theorem ReadP.mk {g N : Nat} {v : Vl} {rest : List UInt8} {err : Int} {w W wB : World} {cs : Array Value} {fr : Nat × Nat} (hN : N = w.heap.size) (hr : RdR wB g rest err) (ho : Only g w wB) (hg : g < w.heap.size) (hb : wB.heap[N]? = some (.cells cs 24 fr)) (u0 u1 u2 u3 u4 : Value) :
    ReadP g (v, rest, err) w (.returned (agV v)) (((((wB.setCell ⟨N, 0, none⟩ u0).setCell ⟨N, 1, none⟩ u1).setCell ⟨N, 2, none⟩ u2).setCell ⟨N, 3, none⟩ u3).setCell ⟨N, 4, none⟩ u4) := by
  subst hN
  exact ⟨rfl, hr.off (only_self5 _ _ _ _ _ _ _) (by omega) hb, ho.set5 (Nat.le_refl _) _ _ _ _ _⟩

set_option maxHeartbeats 4000000 in
theorem read_1 (g : Nat) (rest : List UInt8) (e : Int) (w : World) (hr : RdR w g rest e) (hlen : rest.length ≤ 1000000000000) (hk : wrap64 ((stepF 8 alInt rest e).1 : Int) = 1) : Calls Try.prog 65 #[.pointer (some ⟨g, 0, none⟩)] w (ReadP g (readF rest e) w) := by
  have hgl := hr.lt
  have q1 : ∀ W, Below w.heap.size w W → Calls Try.prog 92 #[.pointer (some ⟨g, 0, none⟩)] W (Did g (.int .i64 (wrap64 ((stepF 8 alInt rest e).1 : Int))) (stepF 8 alInt rest e).2.1 (stepF 8 alInt rest e).2.2 W) := fun W hb => Int_any g rest e W (hr.below hb)
  have hsl : (stepF 8 alInt rest e).2.1.length ≤ rest.length := by
    unfold stepF
    split
    · exact Nat.le_refl _
    split
    · exact Nat.le_refl _
    split
    · exact Nat.le_refl _
    · simp
  unfold readF
  rw [if_pos hk]
  generalize stepF 8 alInt rest e = s at *
  obtain ⟨n, r1, e1⟩ := s
  simp only at *
  have d1 : (wrap64 (n : Int) == 1) = true := by rw [hk]; rfl
  have d2 : (wrap64 (n : Int) == 2) = false := by rw [hk]; rfl
  have d3 : (wrap64 (n : Int) == 3) = false := by rw [hk]; rfl
  have d4 : (wrap64 (n : Int) == 4) = false := by rw [hk]; rfl
  have q2 : ∀ W, RdR W g r1 e1 → Calls Try.prog 92 #[.pointer (some ⟨g, 0, none⟩)] W (Did g (.int .i64 (wrap64 ((stepF 8 alInt r1 e1).1 : Int))) (stepF 8 alInt r1 e1).2.1 (stepF 8 alInt r1 e1).2.2 W) := fun W h => Int_any g r1 e1 W h
  generalize stepF 8 alInt r1 e1 = t at *
  obtain ⟨m, r2, e2⟩ := t
  simp only at *
  have HW0 := Lib.hid ((Below.refl w.heap.size w).alloc (Nat.le_refl _) (.cells #[.int .i64 0, .int .i64 0, .bool false, .string ⟨#[]⟩, .float .f64 0] 24))
  have hne : w.heap.size ≠ g := by omega
  have HB0 := Lib.hid (heap_alloc_new w (.cells #[.int .i64 0, .int .i64 0, .bool false, .string ⟨#[]⟩, .float .f64 0] 24))
  have Q1 := Lib.hid q1
  have Q2 := Lib.hid q2
  have HG := Lib.hid hgl
  clear q1 hr hlen hsl hgl q2 hk
  have tok1 : True := trivial
  have hsf := fun (w : World) (a : Addr) (m : Mode) (b : Nat) => run_store Try.prog w a (.float .f64 b) m rfl
  go_enter Try.func65, Try.ntmps65
  go_wp2_with fail
  refine (Q1.out _ HW0.out).mono ?_
  rintro e wA ⟨rfl, hr1, ho1⟩
  obtain ⟨hc1, hf1⟩ := only_at ho1 (show w.heap.size < (w.alloc (.cells #[.int .i64 0, .int .i64 0, .bool false, .string ⟨#[]⟩, .float .f64 0] 24)).heap.size by simp) hne
  have HO1 := Lib.hid (Only.trans' (w := w) HW0.out ho1)
  have HN1 := Lib.hid ((ho1.block w.heap.size (by simp) (by intro e; injection e with e; exact hne e)).trans HB0.out)
  have hzA : w.heap.size < wA.heap.size := by have := ho1.size; simp at this; omega
  have HR1 := Lib.hid hr1
  clear hr1 ho1
  go_wp2_with fail
  refine (Q2.out _ HR1.out).mono ?_
  rintro e wB ⟨rfl, hr2, ho2⟩
  obtain ⟨hc2, hf2⟩ := only_at ho2 hzA hne
  have HO2 := Lib.hid (HO1.out.trans ho2)
  have HN2 := Lib.hid ((ho2.block w.heap.size hzA (by intro e; injection e with e; exact hne e)).trans HN1.out)
  have hzB : w.heap.size < wB.heap.size := by have := ho2.size; omega
  have HR2 := Lib.hid hr2
  clear hr2 ho2
  go_wp2
  exact bodyPost_ret (v := agV (vInt (wrap64 (m : Int)))) (by simp [results, Try.results65, go_sem, hc1, hc2, hzA, hzB]) rfl (ReadP.mk (W := w) rfl HR2.out HO2.out HG.out HN2.out _ _ _ _ _)

set_option maxHeartbeats 4000000 in
theorem read_2 (g : Nat) (rest : List UInt8) (e : Int) (w : World) (hr : RdR w g rest e) (hlen : rest.length ≤ 1000000000000) (hk : wrap64 ((stepF 8 alInt rest e).1 : Int) = 2) : Calls Try.prog 65 #[.pointer (some ⟨g, 0, none⟩)] w (ReadP g (readF rest e) w) := by
  have hgl := hr.lt
  have q1 : ∀ W, Below w.heap.size w W → Calls Try.prog 92 #[.pointer (some ⟨g, 0, none⟩)] W (Did g (.int .i64 (wrap64 ((stepF 8 alInt rest e).1 : Int))) (stepF 8 alInt rest e).2.1 (stepF 8 alInt rest e).2.2 W) := fun W hb => Int_any g rest e W (hr.below hb)
  have hsl : (stepF 8 alInt rest e).2.1.length ≤ rest.length := by
    unfold stepF
    split
    · exact Nat.le_refl _
    split
    · exact Nat.le_refl _
    split
    · exact Nat.le_refl _
    · simp
  unfold readF
  rw [if_neg (show wrap64 ((stepF 8 alInt rest e).1 : Int) ≠ 1 by omega), if_pos hk]
  generalize stepF 8 alInt rest e = s at *
  obtain ⟨n, r1, e1⟩ := s
  simp only at *
  have d1 : (wrap64 (n : Int) == 1) = false := by rw [hk]; rfl
  have d2 : (wrap64 (n : Int) == 2) = true := by rw [hk]; rfl
  have d3 : (wrap64 (n : Int) == 3) = false := by rw [hk]; rfl
  have d4 : (wrap64 (n : Int) == 4) = false := by rw [hk]; rfl
  have q2 : ∀ W, RdR W g r1 e1 → Calls Try.prog 93 #[.pointer (some ⟨g, 0, none⟩)] W (Did g (.bool (decide ((stepF 1 alBool r1 e1).1 = 1))) (stepF 1 alBool r1 e1).2.1 (stepF 1 alBool r1 e1).2.2 W) := fun W h => Bool_any g r1 e1 W h
  generalize stepF 1 alBool r1 e1 = t at *
  obtain ⟨m, r2, e2⟩ := t
  simp only at *
  have HW0 := Lib.hid ((Below.refl w.heap.size w).alloc (Nat.le_refl _) (.cells #[.int .i64 0, .int .i64 0, .bool false, .string ⟨#[]⟩, .float .f64 0] 24))
  have hne : w.heap.size ≠ g := by omega
  have HB0 := Lib.hid (heap_alloc_new w (.cells #[.int .i64 0, .int .i64 0, .bool false, .string ⟨#[]⟩, .float .f64 0] 24))
  have Q1 := Lib.hid q1
  have Q2 := Lib.hid q2
  have HG := Lib.hid hgl
  clear q1 hr hlen hsl hgl q2 hk
  have tok1 : True := trivial
  have hsf := fun (w : World) (a : Addr) (m : Mode) (b : Nat) => run_store Try.prog w a (.float .f64 b) m rfl
  go_enter Try.func65, Try.ntmps65
  go_wp2_with fail
  refine (Q1.out _ HW0.out).mono ?_
  rintro e wA ⟨rfl, hr1, ho1⟩
  obtain ⟨hc1, hf1⟩ := only_at ho1 (show w.heap.size < (w.alloc (.cells #[.int .i64 0, .int .i64 0, .bool false, .string ⟨#[]⟩, .float .f64 0] 24)).heap.size by simp) hne
  have HO1 := Lib.hid (Only.trans' (w := w) HW0.out ho1)
  have HN1 := Lib.hid ((ho1.block w.heap.size (by simp) (by intro e; injection e with e; exact hne e)).trans HB0.out)
  have hzA : w.heap.size < wA.heap.size := by have := ho1.size; simp at this; omega
  have HR1 := Lib.hid hr1
  clear hr1 ho1
  go_wp2_with fail
  refine (Q2.out _ HR1.out).mono ?_
  rintro e wB ⟨rfl, hr2, ho2⟩
  obtain ⟨hc2, hf2⟩ := only_at ho2 hzA hne
  have HO2 := Lib.hid (HO1.out.trans ho2)
  have HN2 := Lib.hid ((ho2.block w.heap.size hzA (by intro e; injection e with e; exact hne e)).trans HN1.out)
  have hzB : w.heap.size < wB.heap.size := by have := ho2.size; omega
  have HR2 := Lib.hid hr2
  clear hr2 ho2
  go_wp2
  exact bodyPost_ret (v := agV (vTruth (decide (m = 1)))) (by simp [results, Try.results65, go_sem, hc1, hc2, hzA, hzB]) rfl (ReadP.mk (W := w) rfl HR2.out HO2.out HG.out HN2.out _ _ _ _ _)

set_option maxHeartbeats 4000000 in
theorem read_3 (g : Nat) (rest : List UInt8) (e : Int) (w : World) (hr : RdR w g rest e) (hlen : rest.length ≤ 1000000000000) (hk : wrap64 ((stepF 8 alInt rest e).1 : Int) = 3) : Calls Try.prog 65 #[.pointer (some ⟨g, 0, none⟩)] w (ReadP g (readF rest e) w) := by
  have hgl := hr.lt
  have q1 : ∀ W, Below w.heap.size w W → Calls Try.prog 92 #[.pointer (some ⟨g, 0, none⟩)] W (Did g (.int .i64 (wrap64 ((stepF 8 alInt rest e).1 : Int))) (stepF 8 alInt rest e).2.1 (stepF 8 alInt rest e).2.2 W) := fun W hb => Int_any g rest e W (hr.below hb)
  have hsl : (stepF 8 alInt rest e).2.1.length ≤ rest.length := by
    unfold stepF
    split
    · exact Nat.le_refl _
    split
    · exact Nat.le_refl _
    split
    · exact Nat.le_refl _
    · simp
  unfold readF
  rw [if_neg (show wrap64 ((stepF 8 alInt rest e).1 : Int) ≠ 1 by omega), if_neg (show wrap64 ((stepF 8 alInt rest e).1 : Int) ≠ 2 by omega), if_pos hk]
  generalize stepF 8 alInt rest e = s at *
  obtain ⟨n, r1, e1⟩ := s
  simp only at *
  have d1 : (wrap64 (n : Int) == 1) = false := by rw [hk]; rfl
  have d2 : (wrap64 (n : Int) == 2) = false := by rw [hk]; rfl
  have d3 : (wrap64 (n : Int) == 3) = true := by rw [hk]; rfl
  have d4 : (wrap64 (n : Int) == 4) = false := by rw [hk]; rfl
  have q2 : ∀ W, RdR W g r1 e1 → Calls Try.prog 94 #[.pointer (some ⟨g, 0, none⟩), .int .i64 32] W (DidB g (bytesF 32 r1 e1).1 (bytesF 32 r1 e1).2.1 (bytesF 32 r1 e1).2.2 W) := fun W h => Bytes_any g r1 e1 32 (by decide) (by decide) W h (by omega)
  generalize bytesF 32 r1 e1 = t at *
  obtain ⟨m, r2, e2⟩ := t
  simp only at *
  have HW0 := Lib.hid ((Below.refl w.heap.size w).alloc (Nat.le_refl _) (.cells #[.int .i64 0, .int .i64 0, .bool false, .string ⟨#[]⟩, .float .f64 0] 24))
  have hne : w.heap.size ≠ g := by omega
  have HB0 := Lib.hid (heap_alloc_new w (.cells #[.int .i64 0, .int .i64 0, .bool false, .string ⟨#[]⟩, .float .f64 0] 24))
  have Q1 := Lib.hid q1
  have Q2 := Lib.hid q2
  have HG := Lib.hid hgl
  clear q1 hr hlen hsl hgl q2 hk
  have tok1 : True := trivial
  have hsf := fun (w : World) (a : Addr) (m : Mode) (b : Nat) => run_store Try.prog w a (.float .f64 b) m rfl
  go_enter Try.func65, Try.ntmps65
  go_wp2_with fail
  refine (Q1.out _ HW0.out).mono ?_
  rintro e wA ⟨rfl, hr1, ho1⟩
  obtain ⟨hc1, hf1⟩ := only_at ho1 (show w.heap.size < (w.alloc (.cells #[.int .i64 0, .int .i64 0, .bool false, .string ⟨#[]⟩, .float .f64 0] 24)).heap.size by simp) hne
  have HO1 := Lib.hid (Only.trans' (w := w) HW0.out ho1)
  have HN1 := Lib.hid ((ho1.block w.heap.size (by simp) (by intro e; injection e with e; exact hne e)).trans HB0.out)
  have hzA : w.heap.size < wA.heap.size := by have := ho1.size; simp at this; omega
  have HR1 := Lib.hid hr1
  clear hr1 ho1
  go_wp2_with fail
  refine (Q2.out _ HR1.out).mono ?_
  rintro e wB ⟨u, rfl, hu, hr2, ho2⟩
  have hcv : (convert 42 9 u).run Try.prog wB = .ok (.string (strB m)) wB := run_str hu
  obtain ⟨hc2, hf2⟩ := only_at ho2 hzA hne
  have HO2 := Lib.hid (HO1.out.trans ho2)
  have HN2 := Lib.hid ((ho2.block w.heap.size hzA (by intro e; injection e with e; exact hne e)).trans HN1.out)
  have hzB : w.heap.size < wB.heap.size := by have := ho2.size; omega
  have HR2 := Lib.hid hr2
  clear hr2 ho2
  go_wp2
  exact bodyPost_ret (v := agV (⟨3, 0, false, strB m, 0⟩)) (by simp [results, Try.results65, go_sem, hc1, hc2, hzA, hzB]) rfl (ReadP.mk (W := w) rfl HR2.out HO2.out HG.out HN2.out _ _ _ _ _)

set_option maxHeartbeats 4000000 in
theorem read_4 (g : Nat) (rest : List UInt8) (e : Int) (w : World) (hr : RdR w g rest e) (hlen : rest.length ≤ 1000000000000) (hk : wrap64 ((stepF 8 alInt rest e).1 : Int) = 4) : Calls Try.prog 65 #[.pointer (some ⟨g, 0, none⟩)] w (ReadP g (readF rest e) w) := by
  have hgl := hr.lt
  have q1 : ∀ W, Below w.heap.size w W → Calls Try.prog 92 #[.pointer (some ⟨g, 0, none⟩)] W (Did g (.int .i64 (wrap64 ((stepF 8 alInt rest e).1 : Int))) (stepF 8 alInt rest e).2.1 (stepF 8 alInt rest e).2.2 W) := fun W hb => Int_any g rest e W (hr.below hb)
  have hsl : (stepF 8 alInt rest e).2.1.length ≤ rest.length := by
    unfold stepF
    split
    · exact Nat.le_refl _
    split
    · exact Nat.le_refl _
    split
    · exact Nat.le_refl _
    · simp
  unfold readF
  rw [if_neg (show wrap64 ((stepF 8 alInt rest e).1 : Int) ≠ 1 by omega), if_neg (show wrap64 ((stepF 8 alInt rest e).1 : Int) ≠ 2 by omega), if_neg (show wrap64 ((stepF 8 alInt rest e).1 : Int) ≠ 3 by omega), if_pos hk]
  generalize stepF 8 alInt rest e = s at *
  obtain ⟨n, r1, e1⟩ := s
  simp only at *
  have d1 : (wrap64 (n : Int) == 1) = false := by rw [hk]; rfl
  have d2 : (wrap64 (n : Int) == 2) = false := by rw [hk]; rfl
  have d3 : (wrap64 (n : Int) == 3) = false := by rw [hk]; rfl
  have d4 : (wrap64 (n : Int) == 4) = true := by rw [hk]; rfl
  have q2 : ∀ W, RdR W g r1 e1 → Calls Try.prog 95 #[.pointer (some ⟨g, 0, none⟩)] W (Did g (.float .f64 (stepF 8 alNum r1 e1).1) (stepF 8 alNum r1 e1).2.1 (stepF 8 alNum r1 e1).2.2 W) := fun W h => Num_any g r1 e1 W h
  generalize stepF 8 alNum r1 e1 = t at *
  obtain ⟨m, r2, e2⟩ := t
  simp only at *
  have HW0 := Lib.hid ((Below.refl w.heap.size w).alloc (Nat.le_refl _) (.cells #[.int .i64 0, .int .i64 0, .bool false, .string ⟨#[]⟩, .float .f64 0] 24))
  have hne : w.heap.size ≠ g := by omega
  have HB0 := Lib.hid (heap_alloc_new w (.cells #[.int .i64 0, .int .i64 0, .bool false, .string ⟨#[]⟩, .float .f64 0] 24))
  have Q1 := Lib.hid q1
  have Q2 := Lib.hid q2
  have HG := Lib.hid hgl
  clear q1 hr hlen hsl hgl q2 hk
  have tok1 : True := trivial
  have hsf := fun (w : World) (a : Addr) (m : Mode) (b : Nat) => run_store Try.prog w a (.float .f64 b) m rfl
  go_enter Try.func65, Try.ntmps65
  go_wp2_with fail
  refine (Q1.out _ HW0.out).mono ?_
  rintro e wA ⟨rfl, hr1, ho1⟩
  obtain ⟨hc1, hf1⟩ := only_at ho1 (show w.heap.size < (w.alloc (.cells #[.int .i64 0, .int .i64 0, .bool false, .string ⟨#[]⟩, .float .f64 0] 24)).heap.size by simp) hne
  have HO1 := Lib.hid (Only.trans' (w := w) HW0.out ho1)
  have HN1 := Lib.hid ((ho1.block w.heap.size (by simp) (by intro e; injection e with e; exact hne e)).trans HB0.out)
  have hzA : w.heap.size < wA.heap.size := by have := ho1.size; simp at this; omega
  have HR1 := Lib.hid hr1
  clear hr1 ho1
  go_wp2_with fail
  refine (Q2.out _ HR1.out).mono ?_
  rintro e wB ⟨rfl, hr2, ho2⟩
  obtain ⟨hc2, hf2⟩ := only_at ho2 hzA hne
  have HO2 := Lib.hid (HO1.out.trans ho2)
  have HN2 := Lib.hid ((ho2.block w.heap.size hzA (by intro e; injection e with e; exact hne e)).trans HN1.out)
  have hzB : w.heap.size < wB.heap.size := by have := ho2.size; omega
  have HR2 := Lib.hid hr2
  clear hr2 ho2
  go_wp2
  exact bodyPost_ret (v := agV (vNum m)) (by simp [results, Try.results65, go_sem, hc1, hc2, hzA, hzB]) rfl (ReadP.mk (W := w) rfl HR2.out HO2.out HG.out HN2.out _ _ _ _ _)

set_option maxHeartbeats 4000000 in
theorem read_0 (g : Nat) (rest : List UInt8) (e : Int) (w : World) (hr : RdR w g rest e) (hlen : rest.length ≤ 1000000000000) (h1 : wrap64 ((stepF 8 alInt rest e).1 : Int) ≠ 1) (h2 : wrap64 ((stepF 8 alInt rest e).1 : Int) ≠ 2) (h3 : wrap64 ((stepF 8 alInt rest e).1 : Int) ≠ 3) (h4 : wrap64 ((stepF 8 alInt rest e).1 : Int) ≠ 4) : Calls Try.prog 65 #[.pointer (some ⟨g, 0, none⟩)] w (ReadP g (readF rest e) w) := by
  have hgl := hr.lt
  have q1 : ∀ W, Below w.heap.size w W → Calls Try.prog 92 #[.pointer (some ⟨g, 0, none⟩)] W (Did g (.int .i64 (wrap64 ((stepF 8 alInt rest e).1 : Int))) (stepF 8 alInt rest e).2.1 (stepF 8 alInt rest e).2.2 W) := fun W hb => Int_any g rest e W (hr.below hb)
  have hsl : (stepF 8 alInt rest e).2.1.length ≤ rest.length := by
    unfold stepF
    split
    · exact Nat.le_refl _
    split
    · exact Nat.le_refl _
    split
    · exact Nat.le_refl _
    · simp
  unfold readF
  rw [if_neg h1, if_neg h2, if_neg h3, if_neg h4]
  generalize stepF 8 alInt rest e = s at *
  obtain ⟨n, r1, e1⟩ := s
  simp only at *
  have d1 : (wrap64 (n : Int) == 1) = false := by simpa using h1
  have d2 : (wrap64 (n : Int) == 2) = false := by simpa using h2
  have d3 : (wrap64 (n : Int) == 3) = false := by simpa using h3
  have d4 : (wrap64 (n : Int) == 4) = false := by simpa using h4
  have HW0 := Lib.hid ((Below.refl w.heap.size w).alloc (Nat.le_refl _) (.cells #[.int .i64 0, .int .i64 0, .bool false, .string ⟨#[]⟩, .float .f64 0] 24))
  have hne : w.heap.size ≠ g := by omega
  have HB0 := Lib.hid (heap_alloc_new w (.cells #[.int .i64 0, .int .i64 0, .bool false, .string ⟨#[]⟩, .float .f64 0] 24))
  have Q1 := Lib.hid q1
  have HG := Lib.hid hgl
  clear q1 hr hlen hsl hgl h1 h2 h3 h4
  have tok1 : True := trivial
  have hsf := fun (w : World) (a : Addr) (m : Mode) (b : Nat) => run_store Try.prog w a (.float .f64 b) m rfl
  go_enter Try.func65, Try.ntmps65
  go_wp2_with fail
  refine (Q1.out _ HW0.out).mono ?_
  rintro e wA ⟨rfl, hr1, ho1⟩
  obtain ⟨hc1, hf1⟩ := only_at ho1 (show w.heap.size < (w.alloc (.cells #[.int .i64 0, .int .i64 0, .bool false, .string ⟨#[]⟩, .float .f64 0] 24)).heap.size by simp) hne
  have HO1 := Lib.hid (Only.trans' (w := w) HW0.out ho1)
  have HN1 := Lib.hid ((ho1.block w.heap.size (by simp) (by intro e; injection e with e; exact hne e)).trans HB0.out)
  have hzA : w.heap.size < wA.heap.size := by have := ho1.size; simp at this; omega
  have HR1 := Lib.hid hr1
  clear hr1 ho1
  go_wp2
  exact bodyPost_ret (v := agV vZero) (by simp [results, Try.results65, go_sem, hc1, hzA]) rfl (ReadP.mk (W := w) rfl HR1.out HO1.out HG.out HN1.out _ _ _ _ _)

theorem read_any (g : Nat) (rest : List UInt8) (e : Int) (w : World) (hr : RdR w g rest e) (hlen : rest.length ≤ 1000000000000) : Calls Try.prog 65 #[.pointer (some ⟨g, 0, none⟩)] w (ReadP g (readF rest e) w) := by
  by_cases h1 : wrap64 ((stepF 8 alInt rest e).1 : Int) = 1
  · exact read_1 g rest e w hr hlen h1
  by_cases h2 : wrap64 ((stepF 8 alInt rest e).1 : Int) = 2
  · exact read_2 g rest e w hr hlen h2
  by_cases h3 : wrap64 ((stepF 8 alInt rest e).1 : Int) = 3
  · exact read_3 g rest e w hr hlen h3
  by_cases h4 : wrap64 ((stepF 8 alInt rest e).1 : Int) = 4
  · exact read_4 g rest e w hr hlen h4
  exact read_0 g rest e w hr hlen h1 h2 h3 h4
end Go.Proofs.Ytlnpolepgdoloaa
