/- Bf: ERFit ESound RefC VGet VGet2 VRGet VBeside VPut VROrd VREq VTwo VCodes TOf VBackLaw EByt EPut ERSmall ERPut ERows ERows2 EKid ERSame EGet1 EGet2 EGet3 EGet4 EBack (made by shake.py). -/
import Derived.Deep.CutRange
import Derived.Deep.RegionHeld3
import Derived.Test.YtkhpgejammgolaaGreatBe
/- Layer 5: do values fit fields, by the program and by the document. (Made by gen/genfit.py.) -/
namespace Go.Proofs.YtkhpgejammgolaaGreat
open Go.RowKit
set_option linter.unusedVariables false
set_option linter.unusedSimpArgs false
set_option maxRecDepth 20000

end Go.Proofs.YtkhpgejammgolaaGreat

/- Layer 5: ExprSound. -/
namespace Go.Proofs.YtkhpgejammgolaaGreat
open Go.RowKit
set_option linter.unusedVariables false
set_option linter.unusedSimpArgs false
set_option maxRecDepth 20000

/-- a law's two boxes: the expression, the scope -/
structure SB (w : World) (FA : Option Addr) (fn FC : Nat) (VA : Option Addr) (vn VC : Nat) (op : Int) (A : Option Addr) (n c : Nat) (nm : ByteArray) (v : Vl) (W : World) : Prop where
  bel : Below w.heap.size w W
  ex : CellsX W w.heap.size op A n c nm v
  f : W.cell? ⟨w.heap.size + 1, 0, none⟩ = some (.slice FA fn FC)
  v : W.cell? ⟨w.heap.size + 1, 1, none⟩ = some (.slice VA vn VC)
  lt : w.heap.size + 2 ≤ W.heap.size
theorem SB.below {w : World} {FA : Option Addr} {fn FC : Nat} {VA : Option Addr} {vn VC : Nat} {op : Int} {A : Option Addr} {n c : Nat} {nm : ByteArray} {v : Vl} {W W' : World} (h : SB w FA fn FC VA vn VC op A n c nm v W) (hb : Below W.heap.size W W') : SB w FA fn FC VA vn VC op A n c nm v W' :=
  ⟨h.bel.trans (hb.mono h.bel.size), h.ex.below hb, keepc hb (by have := h.lt; omega) h.f, keepc hb (by have := h.lt; omega) h.v, Nat.le_trans h.lt hb.size⟩
theorem SB.new (w : World) (FA : Option Addr) (fn FC : Nat) (VA : Option Addr) (vn VC : Nat) (op : Int) (A : Option Addr) (n c : Nat) (nm : ByteArray) (v : Vl) (t : TypeId) :
    SB w FA fn FC VA vn VC op A n c nm v ((w.alloc (bxX op A n c nm v)).alloc (.cells #[.slice FA fn FC, .slice VA vn VC] t)) := by
  have h2 := heap_alloc_new (w.alloc (bxX op A n c nm v)) (.cells #[.slice FA fn FC, .slice VA vn VC] t)
  have hs : (w.alloc (bxX op A n c nm v)).heap.size = w.heap.size + 1 := by simp
  rw [hs] at h2
  exact ⟨vbox2 w _ _, (Kid_new w op A n c nm v).below (alloc1 _ _), (cell_of_row _ _ 0 _ _ (0, 0) h2).trans rfl, (cell_of_row _ _ 1 _ _ (0, 0) h2).trans rfl, by simp⟩
end Go.Proofs.YtkhpgejammgolaaGreat

/- The document's reader: rows of bytes. -/
namespace Go.Proofs.YtkhpgejammgolaaGreat
open Go.RowKit
set_option linter.unusedVariables false
set_option maxRecDepth 20000

end Go.Proofs.YtkhpgejammgolaaGreat

/- Layer 4: values out of bytes, by the program. (Made by gen/genvget.py.) -/
namespace Go.Proofs.YtkhpgejammgolaaGreat
open Go.RowKit
set_option linter.unusedVariables false
set_option linter.unusedSimpArgs false
set_option maxRecDepth 20000

/-- 4.5: what stands there as it is read, what is left, the reader's error -/
def readF (rest : List UInt8) (e : Int) : Vl × List UInt8 × Int :=
  if wrap64 ((stepF 8 alInt rest e).1 : Int) = 1 then (vInt (wrap64 ((stepF 8 alInt (stepF 8 alInt rest e).2.1 (stepF 8 alInt rest e).2.2).1 : Int)), (stepF 8 alInt (stepF 8 alInt rest e).2.1 (stepF 8 alInt rest e).2.2).2)
  else if wrap64 ((stepF 8 alInt rest e).1 : Int) = 2 then (vTruth (decide ((stepF 1 alBool (stepF 8 alInt rest e).2.1 (stepF 8 alInt rest e).2.2).1 = 1)), (stepF 1 alBool (stepF 8 alInt rest e).2.1 (stepF 8 alInt rest e).2.2).2)
  else if wrap64 ((stepF 8 alInt rest e).1 : Int) = 3 then (⟨3, 0, false, strB (bytesF 32 (stepF 8 alInt rest e).2.1 (stepF 8 alInt rest e).2.2).1, 0⟩, (bytesF 32 (stepF 8 alInt rest e).2.1 (stepF 8 alInt rest e).2.2).2)
  else if wrap64 ((stepF 8 alInt rest e).1 : Int) = 4 then (vNum (stepF 8 alNum (stepF 8 alInt rest e).2.1 (stepF 8 alInt rest e).2.2).1, (stepF 8 alNum (stepF 8 alInt rest e).2.1 (stepF 8 alInt rest e).2.2).2)
  else (vZero, (stepF 8 alInt rest e).2)
/-- .. and what Get tells of it -/
def getV (rest : List UInt8) (e : Int) : Vl := if (readF rest e).2.2 = 0 then (readF rest e).1 else vZero
def getE (rest : List UInt8) (e : Int) : Int := if (readF rest e).2.2 = 0 then (if (readF rest e).1.k = 0 then 12 else 0) else (readF rest e).2.2

/-- a block but the one that was written is as it was -/
theorem only_at {g b : Nat} {W W' : World} (ho : Only g W W') (hb : b < W.heap.size) (hne : b ≠ g) : (∀ j, W'.cell? ⟨b, j, none⟩ = W.cell? ⟨b, j, none⟩) ∧ (∀ j, W'.frozen? ⟨b, j, none⟩ = W.frozen? ⟨b, j, none⟩) := by
  have h := ho.block b hb (by intro e; injection e with e; exact hne e)
  exact ⟨fun j => World.cell?_of_block (a := ⟨b, j, none⟩) h, fun j => World.frozen?_of_block (a := ⟨b, j, none⟩) h⟩
theorem Only.setNew {g k : Nat} {a w : World} (h : Only g a w) (hk : a.heap.size ≤ k) (j : Nat) (u : Value) : Only g a (w.setCell ⟨k, j, none⟩ u) :=
  ⟨h.os, h.tape, h.output, by simpa [World.setCell] using h.size, fun m hm hne => (Below.heap_setCell w _ u m (by intro e; simp only at e; omega)).trans (h.block m hm hne)⟩
theorem Only.set5 {g k : Nat} {a w : World} (h : Only g a w) (hk : a.heap.size ≤ k) (u0 u1 u2 u3 u4 : Value) :
    Only g a (((((w.setCell ⟨k, 0, none⟩ u0).setCell ⟨k, 1, none⟩ u1).setCell ⟨k, 2, none⟩ u2).setCell ⟨k, 3, none⟩ u3).setCell ⟨k, 4, none⟩ u4) :=
  ((((h.setNew hk 0 u0).setNew hk 1 u1).setNew hk 2 u2).setNew hk 3 u3).setNew hk 4 u4
theorem only_self5 (k : Nat) (w : World) (u0 u1 u2 u3 u4 : Value) :
    Only k w (((((w.setCell ⟨k, 0, none⟩ u0).setCell ⟨k, 1, none⟩ u1).setCell ⟨k, 2, none⟩ u2).setCell ⟨k, 3, none⟩ u3).setCell ⟨k, 4, none⟩ u4) :=
  (((((Only.refl k w).set 0 u0).set 1 u1).set 2 u2).set 3 u3).set 4 u4
theorem Only.trans' {g : Nat} {w W W' : World} (h : Below w.heap.size w W) (ho : Only g W W') : Only g w W' := ((Only.refl g w).below h).trans ho
/-- bytes do not lie in a block of values -/
theorem Bt.off {w w' : World} {N : Nat} {v : Value} {l : List UInt8} {cs : Array Value} {fr : Nat × Nat} (h : Bt w v l) (ho : Only N w w') (hN : w.heap[N]? = some (.cells cs 25 fr)) : Bt w' v l := by
  obtain ⟨⟨A, c, hv, hc, hm, hn, hx⟩, hy⟩ := h
  by_cases hl : l = []
  · subst hl
    exact ⟨⟨A, c, hv, hc, hm, hn, fun he => absurd rfl he⟩, fun he => absurd rfl he⟩
  · have hl' : l.map bc ≠ [] := by simpa using hl
    obtain ⟨ad, ha, hb, hr⟩ := hx hl'
    have hown : v.ownBlock = some ad.block := by rw [hv, ha]; rfl
    obtain ⟨cs2, fr2, hty⟩ := hy hl ad.block hown
    have hne : ad.block ≠ N := by
      intro e
      rw [e, hN] at hty
      injection hty with hty
      injection hty with h1 h2 h3
      exact absurd h2 (by decide)
    have hblk := ho.block ad.block hb (by intro e; injection e with e; exact hne e)
    refine ⟨⟨A, c, hv, hc, hm, hn, fun _ => ⟨ad, ha, Nat.lt_of_lt_of_le hb ho.size, fun j u hu => ?_⟩⟩, fun _ k hk => ?_⟩
    · have hb2 : (ad.add j).block = ad.block := block_add ad j
      exact (World.cell?_of_block (w := w) (w' := w') (a := ad.add j) (by rw [hb2]; exact hblk)).trans (hr j u hu)
    · rw [hown] at hk
      injection hk with hk
      subst hk
      exact ⟨cs2, fr2, hblk.trans hty⟩
theorem RdR.off {w w' : World} {N g : Nat} {rest : List UInt8} {err : Int} {cs : Array Value} {fr : Nat × Nat} (h : RdR w g rest err) (ho : Only N w w') (hne : g ≠ N) (hN : w.heap[N]? = some (.cells cs 25 fr)) : RdR w' g rest err := by
  have hlt := h.lt
  obtain ⟨rv, hh, hb⟩ := h
  exact ⟨rv, (ho.block g hlt (by intro e; injection e with e; exact hne e)).trans hh, hb.off ho hN⟩
theorem Bs.offN {w w' : World} {N : Nat} {v : Value} {l : List UInt8} (h : Bs w v l) (ho : Only N w w') (hN : l ≠ [] → ∀ k, v.ownBlock = some k → k ≠ N) : Bs w' v l := by
  obtain ⟨A, c, hv, hc, hm, hn, hx⟩ := h
  by_cases hl : l = []
  · subst hl
    exact ⟨A, c, hv, hc, hm, hn, fun he => absurd rfl he⟩
  · have hl' : l.map bc ≠ [] := by simpa using hl
    obtain ⟨ad, ha, hb, hr⟩ := hx hl'
    have hown : v.ownBlock = some ad.block := by rw [hv, ha]; rfl
    have hne := hN hl ad.block hown
    have hblk := ho.block ad.block hb (by intro e; injection e with e; exact hne e)
    refine ⟨A, c, hv, hc, hm, hn, fun _ => ⟨ad, ha, Nat.lt_of_lt_of_le hb ho.size, fun j u hu => ?_⟩⟩
    have hb2 : (ad.add j).block = ad.block := block_add ad j
    exact (World.cell?_of_block (w := w) (w' := w') (a := ad.add j) (by rw [hb2]; exact hblk)).trans (hr j u hu)
theorem Bq.off {w w' : World} {N g : Nat} {v : Value} {l : List UInt8} {cs : Array Value} {fr : Nat × Nat} (h : Bq g w v l) (ho : Only N w w') (hlt : g < N) (hN : w.heap[N]? = some (.cells cs 25 fr)) : Bq g w' v l := by
  rcases h with ⟨h1, h2 | h2⟩
  · exact (Bt.off ⟨h1, h2⟩ ho hN).bq
  · exact ⟨h1.offN ho (fun hl k hk e => by have := h2 hl k hk; omega), Or.inr h2⟩
theorem RfS.off {w w' : World} {N g : Nat} {rest : List UInt8} {err : Int} {cs : Array Value} {fr : Nat × Nat} (h : RfS w g rest err) (ho : Only N w w') (hlt : g < N) (hN : w.heap[N]? = some (.cells cs 25 fr)) : RfS w' g rest err := by
  have hgl := h.lt
  obtain ⟨bs, i, ⟨bv, hh, hb, h1, h2⟩, h3⟩ := h
  exact ⟨bs, i, ⟨bv, (ho.block g hgl (by intro e; injection e with e; omega)).trans hh, hb.off ho hlt hN, h1, h2⟩, h3⟩

/-- what read answers -/
def ReadP (g : Nat) (r : Vl × List UInt8 × Int) (w : World) (e : Ending) (w' : World) : Prop := e = .returned (agV r.1) ∧ RdR w' g r.2.1 r.2.2 ∧ Only g w w'
theorem ReadP.mk {g N : Nat} {v : Vl} {rest : List UInt8} {err : Int} {w W wB : World} {cs : Array Value} {fr : Nat × Nat} (hN : N = w.heap.size) (hr : RdR wB g rest err) (ho : Only g w wB) (hg : g < w.heap.size) (hb : wB.heap[N]? = some (.cells cs 25 fr)) (u0 u1 u2 u3 u4 : Value) :
    ReadP g (v, rest, err) w (.returned (agV v)) (((((wB.setCell ⟨N, 0, none⟩ u0).setCell ⟨N, 1, none⟩ u1).setCell ⟨N, 2, none⟩ u2).setCell ⟨N, 3, none⟩ u3).setCell ⟨N, 4, none⟩ u4) := by
  subst hN
  exact ⟨rfl, hr.off (only_self5 _ _ _ _ _ _ _) (by omega) hb, ho.set5 (Nat.le_refl _) _ _ _ _ _⟩

set_option maxHeartbeats 4000000 in
theorem read_1 (g : Nat) (rest : List UInt8) (e : Int) (w : World) (hr : RdR w g rest e) (hlen : rest.length ≤ 1000000000000) (hk : wrap64 ((stepF 8 alInt rest e).1 : Int) = 1) : Calls Tryz.prog 192 #[.pointer (some ⟨g, 0, none⟩)] w (ReadP g (readF rest e) w) := by
  have hgl := hr.lt
  have q1 : ∀ W, Below w.heap.size w W → Calls Tryz.prog 91 #[.pointer (some ⟨g, 0, none⟩)] W (Did g (.int .i64 (wrap64 ((stepF 8 alInt rest e).1 : Int))) (stepF 8 alInt rest e).2.1 (stepF 8 alInt rest e).2.2 W) := fun W hb => Int_any g rest e W (hr.below hb)
  have hsl : (stepF 8 alInt rest e).2.1.length ≤ rest.length := by
    unfold stepF
    split
    · exact Nat.le_refl _
    split
    · exact Nat.le_refl _
    split
    · exact Nat.le_refl _
    · simp
  unfold readF
  rw [if_pos hk]
  generalize stepF 8 alInt rest e = s at *
  obtain ⟨n, r1, e1⟩ := s
  simp only at *
  have d1 : (wrap64 (n : Int) == 1) = true := by rw [hk]; rfl
  have d2 : (wrap64 (n : Int) == 2) = false := by rw [hk]; rfl
  have d3 : (wrap64 (n : Int) == 3) = false := by rw [hk]; rfl
  have d4 : (wrap64 (n : Int) == 4) = false := by rw [hk]; rfl
  have q2 : ∀ W, RdR W g r1 e1 → Calls Tryz.prog 91 #[.pointer (some ⟨g, 0, none⟩)] W (Did g (.int .i64 (wrap64 ((stepF 8 alInt r1 e1).1 : Int))) (stepF 8 alInt r1 e1).2.1 (stepF 8 alInt r1 e1).2.2 W) := fun W h => Int_any g r1 e1 W h
  generalize stepF 8 alInt r1 e1 = t at *
  obtain ⟨m, r2, e2⟩ := t
  simp only at *
  have HW0 := Lib.hid ((Below.refl w.heap.size w).alloc (Nat.le_refl _) (.cells #[.int .i64 0, .int .i64 0, .bool false, .string ⟨#[]⟩, .float .f64 0] 25))
  have hne : w.heap.size ≠ g := by omega
  have HB0 := Lib.hid (heap_alloc_new w (.cells #[.int .i64 0, .int .i64 0, .bool false, .string ⟨#[]⟩, .float .f64 0] 25))
  have Q1 := Lib.hid q1
  have Q2 := Lib.hid q2
  have HG := Lib.hid hgl
  clear q1 hr hlen hsl hgl q2 hk
  have tok1 : True := trivial
  have hsf := fun (w : World) (a : Addr) (m : Mode) (b : Nat) => run_store Tryz.prog w a (.float .f64 b) m rfl
  go_enter Tryz.func192, Tryz.ntmps192
  go_wp2_with fail
  refine (Q1.out _ HW0.out).mono ?_
  rintro e wA ⟨rfl, hr1, ho1⟩
  obtain ⟨hc1, hf1⟩ := only_at ho1 (show w.heap.size < (w.alloc (.cells #[.int .i64 0, .int .i64 0, .bool false, .string ⟨#[]⟩, .float .f64 0] 25)).heap.size by simp) hne
  have HO1 := Lib.hid (Only.trans' (w := w) HW0.out ho1)
  have HN1 := Lib.hid ((ho1.block w.heap.size (by simp) (by intro e; injection e with e; exact hne e)).trans HB0.out)
  have hzA : w.heap.size < wA.heap.size := by have := ho1.size; simp at this; omega
  have HR1 := Lib.hid hr1
  clear hr1 ho1
  go_wp2_with fail
  refine (Q2.out _ HR1.out).mono ?_
  rintro e wB ⟨rfl, hr2, ho2⟩
  obtain ⟨hc2, hf2⟩ := only_at ho2 hzA hne
  have HO2 := Lib.hid (HO1.out.trans ho2)
  have HN2 := Lib.hid ((ho2.block w.heap.size hzA (by intro e; injection e with e; exact hne e)).trans HN1.out)
  have hzB : w.heap.size < wB.heap.size := by have := ho2.size; omega
  have HR2 := Lib.hid hr2
  clear hr2 ho2
  go_wp2
  exact bodyPost_ret (v := agV (vInt (wrap64 (m : Int)))) (by simp [results, Tryz.results192, go_sem, hc1, hc2, hzA, hzB]) rfl (ReadP.mk (W := w) rfl HR2.out HO2.out HG.out HN2.out _ _ _ _ _)

set_option maxHeartbeats 4000000 in
theorem read_2 (g : Nat) (rest : List UInt8) (e : Int) (w : World) (hr : RdR w g rest e) (hlen : rest.length ≤ 1000000000000) (hk : wrap64 ((stepF 8 alInt rest e).1 : Int) = 2) : Calls Tryz.prog 192 #[.pointer (some ⟨g, 0, none⟩)] w (ReadP g (readF rest e) w) := by
  have hgl := hr.lt
  have q1 : ∀ W, Below w.heap.size w W → Calls Tryz.prog 91 #[.pointer (some ⟨g, 0, none⟩)] W (Did g (.int .i64 (wrap64 ((stepF 8 alInt rest e).1 : Int))) (stepF 8 alInt rest e).2.1 (stepF 8 alInt rest e).2.2 W) := fun W hb => Int_any g rest e W (hr.below hb)
  have hsl : (stepF 8 alInt rest e).2.1.length ≤ rest.length := by
    unfold stepF
    split
    · exact Nat.le_refl _
    split
    · exact Nat.le_refl _
    split
    · exact Nat.le_refl _
    · simp
  unfold readF
  rw [if_neg (show wrap64 ((stepF 8 alInt rest e).1 : Int) ≠ 1 by omega), if_pos hk]
  generalize stepF 8 alInt rest e = s at *
  obtain ⟨n, r1, e1⟩ := s
  simp only at *
  have d1 : (wrap64 (n : Int) == 1) = false := by rw [hk]; rfl
  have d2 : (wrap64 (n : Int) == 2) = true := by rw [hk]; rfl
  have d3 : (wrap64 (n : Int) == 3) = false := by rw [hk]; rfl
  have d4 : (wrap64 (n : Int) == 4) = false := by rw [hk]; rfl
  have q2 : ∀ W, RdR W g r1 e1 → Calls Tryz.prog 221 #[.pointer (some ⟨g, 0, none⟩)] W (Did g (.bool (decide ((stepF 1 alBool r1 e1).1 = 1))) (stepF 1 alBool r1 e1).2.1 (stepF 1 alBool r1 e1).2.2 W) := fun W h => Bool_any g r1 e1 W h
  generalize stepF 1 alBool r1 e1 = t at *
  obtain ⟨m, r2, e2⟩ := t
  simp only at *
  have HW0 := Lib.hid ((Below.refl w.heap.size w).alloc (Nat.le_refl _) (.cells #[.int .i64 0, .int .i64 0, .bool false, .string ⟨#[]⟩, .float .f64 0] 25))
  have hne : w.heap.size ≠ g := by omega
  have HB0 := Lib.hid (heap_alloc_new w (.cells #[.int .i64 0, .int .i64 0, .bool false, .string ⟨#[]⟩, .float .f64 0] 25))
  have Q1 := Lib.hid q1
  have Q2 := Lib.hid q2
  have HG := Lib.hid hgl
  clear q1 hr hlen hsl hgl q2 hk
  have tok1 : True := trivial
  have hsf := fun (w : World) (a : Addr) (m : Mode) (b : Nat) => run_store Tryz.prog w a (.float .f64 b) m rfl
  go_enter Tryz.func192, Tryz.ntmps192
  go_wp2_with fail
  refine (Q1.out _ HW0.out).mono ?_
  rintro e wA ⟨rfl, hr1, ho1⟩
  obtain ⟨hc1, hf1⟩ := only_at ho1 (show w.heap.size < (w.alloc (.cells #[.int .i64 0, .int .i64 0, .bool false, .string ⟨#[]⟩, .float .f64 0] 25)).heap.size by simp) hne
  have HO1 := Lib.hid (Only.trans' (w := w) HW0.out ho1)
  have HN1 := Lib.hid ((ho1.block w.heap.size (by simp) (by intro e; injection e with e; exact hne e)).trans HB0.out)
  have hzA : w.heap.size < wA.heap.size := by have := ho1.size; simp at this; omega
  have HR1 := Lib.hid hr1
  clear hr1 ho1
  go_wp2_with fail
  refine (Q2.out _ HR1.out).mono ?_
  rintro e wB ⟨rfl, hr2, ho2⟩
  obtain ⟨hc2, hf2⟩ := only_at ho2 hzA hne
  have HO2 := Lib.hid (HO1.out.trans ho2)
  have HN2 := Lib.hid ((ho2.block w.heap.size hzA (by intro e; injection e with e; exact hne e)).trans HN1.out)
  have hzB : w.heap.size < wB.heap.size := by have := ho2.size; omega
  have HR2 := Lib.hid hr2
  clear hr2 ho2
  go_wp2
  exact bodyPost_ret (v := agV (vTruth (decide (m = 1)))) (by simp [results, Tryz.results192, go_sem, hc1, hc2, hzA, hzB]) rfl (ReadP.mk (W := w) rfl HR2.out HO2.out HG.out HN2.out _ _ _ _ _)

set_option maxHeartbeats 4000000 in
theorem read_3 (g : Nat) (rest : List UInt8) (e : Int) (w : World) (hr : RdR w g rest e) (hlen : rest.length ≤ 1000000000000) (hk : wrap64 ((stepF 8 alInt rest e).1 : Int) = 3) : Calls Tryz.prog 192 #[.pointer (some ⟨g, 0, none⟩)] w (ReadP g (readF rest e) w) := by
  have hgl := hr.lt
  have q1 : ∀ W, Below w.heap.size w W → Calls Tryz.prog 91 #[.pointer (some ⟨g, 0, none⟩)] W (Did g (.int .i64 (wrap64 ((stepF 8 alInt rest e).1 : Int))) (stepF 8 alInt rest e).2.1 (stepF 8 alInt rest e).2.2 W) := fun W hb => Int_any g rest e W (hr.below hb)
  have hsl : (stepF 8 alInt rest e).2.1.length ≤ rest.length := by
    unfold stepF
    split
    · exact Nat.le_refl _
    split
    · exact Nat.le_refl _
    split
    · exact Nat.le_refl _
    · simp
  unfold readF
  rw [if_neg (show wrap64 ((stepF 8 alInt rest e).1 : Int) ≠ 1 by omega), if_neg (show wrap64 ((stepF 8 alInt rest e).1 : Int) ≠ 2 by omega), if_pos hk]
  generalize stepF 8 alInt rest e = s at *
  obtain ⟨n, r1, e1⟩ := s
  simp only at *
  have d1 : (wrap64 (n : Int) == 1) = false := by rw [hk]; rfl
  have d2 : (wrap64 (n : Int) == 2) = false := by rw [hk]; rfl
  have d3 : (wrap64 (n : Int) == 3) = true := by rw [hk]; rfl
  have d4 : (wrap64 (n : Int) == 4) = false := by rw [hk]; rfl
  have q2 : ∀ W, RdR W g r1 e1 → Calls Tryz.prog 93 #[.pointer (some ⟨g, 0, none⟩), .int .i64 32] W (DidB g (bytesF 32 r1 e1).1 (bytesF 32 r1 e1).2.1 (bytesF 32 r1 e1).2.2 W) := fun W h => Bytes_any g r1 e1 32 (by decide) (by decide) W h (by omega)
  generalize bytesF 32 r1 e1 = t at *
  obtain ⟨m, r2, e2⟩ := t
  simp only at *
  have HW0 := Lib.hid ((Below.refl w.heap.size w).alloc (Nat.le_refl _) (.cells #[.int .i64 0, .int .i64 0, .bool false, .string ⟨#[]⟩, .float .f64 0] 25))
  have hne : w.heap.size ≠ g := by omega
  have HB0 := Lib.hid (heap_alloc_new w (.cells #[.int .i64 0, .int .i64 0, .bool false, .string ⟨#[]⟩, .float .f64 0] 25))
  have Q1 := Lib.hid q1
  have Q2 := Lib.hid q2
  have HG := Lib.hid hgl
  clear q1 hr hlen hsl hgl q2 hk
  have tok1 : True := trivial
  have hsf := fun (w : World) (a : Addr) (m : Mode) (b : Nat) => run_store Tryz.prog w a (.float .f64 b) m rfl
  go_enter Tryz.func192, Tryz.ntmps192
  go_wp2_with fail
  refine (Q1.out _ HW0.out).mono ?_
  rintro e wA ⟨rfl, hr1, ho1⟩
  obtain ⟨hc1, hf1⟩ := only_at ho1 (show w.heap.size < (w.alloc (.cells #[.int .i64 0, .int .i64 0, .bool false, .string ⟨#[]⟩, .float .f64 0] 25)).heap.size by simp) hne
  have HO1 := Lib.hid (Only.trans' (w := w) HW0.out ho1)
  have HN1 := Lib.hid ((ho1.block w.heap.size (by simp) (by intro e; injection e with e; exact hne e)).trans HB0.out)
  have hzA : w.heap.size < wA.heap.size := by have := ho1.size; simp at this; omega
  have HR1 := Lib.hid hr1
  clear hr1 ho1
  go_wp2_with fail
  refine (Q2.out _ HR1.out).mono ?_
  rintro e wB ⟨u, rfl, hu, hr2, ho2⟩
  have hcv : (convert 28 9 u).run Tryz.prog wB = .ok (.string (strB m)) wB := run_str hu
  obtain ⟨hc2, hf2⟩ := only_at ho2 hzA hne
  have HO2 := Lib.hid (HO1.out.trans ho2)
  have HN2 := Lib.hid ((ho2.block w.heap.size hzA (by intro e; injection e with e; exact hne e)).trans HN1.out)
  have hzB : w.heap.size < wB.heap.size := by have := ho2.size; omega
  have HR2 := Lib.hid hr2
  clear hr2 ho2
  go_wp2
  exact bodyPost_ret (v := agV (⟨3, 0, false, strB m, 0⟩)) (by simp [results, Tryz.results192, go_sem, hc1, hc2, hzA, hzB]) rfl (ReadP.mk (W := w) rfl HR2.out HO2.out HG.out HN2.out _ _ _ _ _)

set_option maxHeartbeats 4000000 in
theorem read_4 (g : Nat) (rest : List UInt8) (e : Int) (w : World) (hr : RdR w g rest e) (hlen : rest.length ≤ 1000000000000) (hk : wrap64 ((stepF 8 alInt rest e).1 : Int) = 4) : Calls Tryz.prog 192 #[.pointer (some ⟨g, 0, none⟩)] w (ReadP g (readF rest e) w) := by
  have hgl := hr.lt
  have q1 : ∀ W, Below w.heap.size w W → Calls Tryz.prog 91 #[.pointer (some ⟨g, 0, none⟩)] W (Did g (.int .i64 (wrap64 ((stepF 8 alInt rest e).1 : Int))) (stepF 8 alInt rest e).2.1 (stepF 8 alInt rest e).2.2 W) := fun W hb => Int_any g rest e W (hr.below hb)
  have hsl : (stepF 8 alInt rest e).2.1.length ≤ rest.length := by
    unfold stepF
    split
    · exact Nat.le_refl _
    split
    · exact Nat.le_refl _
    split
    · exact Nat.le_refl _
    · simp
  unfold readF
  rw [if_neg (show wrap64 ((stepF 8 alInt rest e).1 : Int) ≠ 1 by omega), if_neg (show wrap64 ((stepF 8 alInt rest e).1 : Int) ≠ 2 by omega), if_neg (show wrap64 ((stepF 8 alInt rest e).1 : Int) ≠ 3 by omega), if_pos hk]
  generalize stepF 8 alInt rest e = s at *
  obtain ⟨n, r1, e1⟩ := s
  simp only at *
  have d1 : (wrap64 (n : Int) == 1) = false := by rw [hk]; rfl
  have d2 : (wrap64 (n : Int) == 2) = false := by rw [hk]; rfl
  have d3 : (wrap64 (n : Int) == 3) = false := by rw [hk]; rfl
  have d4 : (wrap64 (n : Int) == 4) = true := by rw [hk]; rfl
  have q2 : ∀ W, RdR W g r1 e1 → Calls Tryz.prog 222 #[.pointer (some ⟨g, 0, none⟩)] W (Did g (.float .f64 (stepF 8 alNum r1 e1).1) (stepF 8 alNum r1 e1).2.1 (stepF 8 alNum r1 e1).2.2 W) := fun W h => Num_any g r1 e1 W h
  generalize stepF 8 alNum r1 e1 = t at *
  obtain ⟨m, r2, e2⟩ := t
  simp only at *
  have HW0 := Lib.hid ((Below.refl w.heap.size w).alloc (Nat.le_refl _) (.cells #[.int .i64 0, .int .i64 0, .bool false, .string ⟨#[]⟩, .float .f64 0] 25))
  have hne : w.heap.size ≠ g := by omega
  have HB0 := Lib.hid (heap_alloc_new w (.cells #[.int .i64 0, .int .i64 0, .bool false, .string ⟨#[]⟩, .float .f64 0] 25))
  have Q1 := Lib.hid q1
  have Q2 := Lib.hid q2
  have HG := Lib.hid hgl
  clear q1 hr hlen hsl hgl q2 hk
  have tok1 : True := trivial
  have hsf := fun (w : World) (a : Addr) (m : Mode) (b : Nat) => run_store Tryz.prog w a (.float .f64 b) m rfl
  go_enter Tryz.func192, Tryz.ntmps192
  go_wp2_with fail
  refine (Q1.out _ HW0.out).mono ?_
  rintro e wA ⟨rfl, hr1, ho1⟩
  obtain ⟨hc1, hf1⟩ := only_at ho1 (show w.heap.size < (w.alloc (.cells #[.int .i64 0, .int .i64 0, .bool false, .string ⟨#[]⟩, .float .f64 0] 25)).heap.size by simp) hne
  have HO1 := Lib.hid (Only.trans' (w := w) HW0.out ho1)
  have HN1 := Lib.hid ((ho1.block w.heap.size (by simp) (by intro e; injection e with e; exact hne e)).trans HB0.out)
  have hzA : w.heap.size < wA.heap.size := by have := ho1.size; simp at this; omega
  have HR1 := Lib.hid hr1
  clear hr1 ho1
  go_wp2_with fail
  refine (Q2.out _ HR1.out).mono ?_
  rintro e wB ⟨rfl, hr2, ho2⟩
  obtain ⟨hc2, hf2⟩ := only_at ho2 hzA hne
  have HO2 := Lib.hid (HO1.out.trans ho2)
  have HN2 := Lib.hid ((ho2.block w.heap.size hzA (by intro e; injection e with e; exact hne e)).trans HN1.out)
  have hzB : w.heap.size < wB.heap.size := by have := ho2.size; omega
  have HR2 := Lib.hid hr2
  clear hr2 ho2
  go_wp2
  exact bodyPost_ret (v := agV (vNum m)) (by simp [results, Tryz.results192, go_sem, hc1, hc2, hzA, hzB]) rfl (ReadP.mk (W := w) rfl HR2.out HO2.out HG.out HN2.out _ _ _ _ _)

set_option maxHeartbeats 4000000 in
theorem read_0 (g : Nat) (rest : List UInt8) (e : Int) (w : World) (hr : RdR w g rest e) (hlen : rest.length ≤ 1000000000000) (h1 : wrap64 ((stepF 8 alInt rest e).1 : Int) ≠ 1) (h2 : wrap64 ((stepF 8 alInt rest e).1 : Int) ≠ 2) (h3 : wrap64 ((stepF 8 alInt rest e).1 : Int) ≠ 3) (h4 : wrap64 ((stepF 8 alInt rest e).1 : Int) ≠ 4) : Calls Tryz.prog 192 #[.pointer (some ⟨g, 0, none⟩)] w (ReadP g (readF rest e) w) := by
  have hgl := hr.lt
  have q1 : ∀ W, Below w.heap.size w W → Calls Tryz.prog 91 #[.pointer (some ⟨g, 0, none⟩)] W (Did g (.int .i64 (wrap64 ((stepF 8 alInt rest e).1 : Int))) (stepF 8 alInt rest e).2.1 (stepF 8 alInt rest e).2.2 W) := fun W hb => Int_any g rest e W (hr.below hb)
  have hsl : (stepF 8 alInt rest e).2.1.length ≤ rest.length := by
    unfold stepF
    split
    · exact Nat.le_refl _
    split
    · exact Nat.le_refl _
    split
    · exact Nat.le_refl _
    · simp
  unfold readF
  rw [if_neg h1, if_neg h2, if_neg h3, if_neg h4]
  generalize stepF 8 alInt rest e = s at *
  obtain ⟨n, r1, e1⟩ := s
  simp only at *
  have d1 : (wrap64 (n : Int) == 1) = false := by simpa using h1
  have d2 : (wrap64 (n : Int) == 2) = false := by simpa using h2
  have d3 : (wrap64 (n : Int) == 3) = false := by simpa using h3
  have d4 : (wrap64 (n : Int) == 4) = false := by simpa using h4
  have HW0 := Lib.hid ((Below.refl w.heap.size w).alloc (Nat.le_refl _) (.cells #[.int .i64 0, .int .i64 0, .bool false, .string ⟨#[]⟩, .float .f64 0] 25))
  have hne : w.heap.size ≠ g := by omega
  have HB0 := Lib.hid (heap_alloc_new w (.cells #[.int .i64 0, .int .i64 0, .bool false, .string ⟨#[]⟩, .float .f64 0] 25))
  have Q1 := Lib.hid q1
  have HG := Lib.hid hgl
  clear q1 hr hlen hsl hgl h1 h2 h3 h4
  have tok1 : True := trivial
  have hsf := fun (w : World) (a : Addr) (m : Mode) (b : Nat) => run_store Tryz.prog w a (.float .f64 b) m rfl
  go_enter Tryz.func192, Tryz.ntmps192
  go_wp2_with fail
  refine (Q1.out _ HW0.out).mono ?_
  rintro e wA ⟨rfl, hr1, ho1⟩
  obtain ⟨hc1, hf1⟩ := only_at ho1 (show w.heap.size < (w.alloc (.cells #[.int .i64 0, .int .i64 0, .bool false, .string ⟨#[]⟩, .float .f64 0] 25)).heap.size by simp) hne
  have HO1 := Lib.hid (Only.trans' (w := w) HW0.out ho1)
  have HN1 := Lib.hid ((ho1.block w.heap.size (by simp) (by intro e; injection e with e; exact hne e)).trans HB0.out)
  have hzA : w.heap.size < wA.heap.size := by have := ho1.size; simp at this; omega
  have HR1 := Lib.hid hr1
  clear hr1 ho1
  go_wp2
  exact bodyPost_ret (v := agV vZero) (by simp [results, Tryz.results192, go_sem, hc1, hzA]) rfl (ReadP.mk (W := w) rfl HR1.out HO1.out HG.out HN1.out _ _ _ _ _)

theorem read_any (g : Nat) (rest : List UInt8) (e : Int) (w : World) (hr : RdR w g rest e) (hlen : rest.length ≤ 1000000000000) : Calls Tryz.prog 192 #[.pointer (some ⟨g, 0, none⟩)] w (ReadP g (readF rest e) w) := by
  by_cases h1 : wrap64 ((stepF 8 alInt rest e).1 : Int) = 1
  · exact read_1 g rest e w hr hlen h1
  by_cases h2 : wrap64 ((stepF 8 alInt rest e).1 : Int) = 2
  · exact read_2 g rest e w hr hlen h2
  by_cases h3 : wrap64 ((stepF 8 alInt rest e).1 : Int) = 3
  · exact read_3 g rest e w hr hlen h3
  by_cases h4 : wrap64 ((stepF 8 alInt rest e).1 : Int) = 4
  · exact read_4 g rest e w hr hlen h4
  exact read_0 g rest e w hr hlen h1 h2 h3 h4
end Go.Proofs.YtkhpgejammgolaaGreat

/- Layer 4: Get by the program. -/
namespace Go.Proofs.YtkhpgejammgolaaGreat
open Go.RowKit
set_option linter.unusedVariables false
set_option linter.unusedSimpArgs false
set_option maxRecDepth 20000

/-- what Get answers -/
def GetP (g : Nat) (v : Vl) (er : Int) (rest : List UInt8) (err : Int) (w : World) (e : Ending) (w' : World) : Prop := e = .returned (pairVE v er) ∧ RdR w' g rest err ∧ Only g w w'
theorem GetP.mk {g N : Nat} {v : Vl} {er : Int} {rest : List UInt8} {err : Int} {w wB : World} {cs : Array Value} {fr : Nat × Nat} (hN : N = w.heap.size) (hr : RdR wB g rest err) (ho : Only g w wB) (hg : g < w.heap.size) (hb : wB.heap[N]? = some (.cells cs 25 fr)) (u0 u1 u2 u3 u4 : Value) :
    GetP g v er rest err w (.returned (pairVE v er)) (((((wB.setCell ⟨N, 0, none⟩ u0).setCell ⟨N, 1, none⟩ u1).setCell ⟨N, 2, none⟩ u2).setCell ⟨N, 3, none⟩ u3).setCell ⟨N, 4, none⟩ u4) := by
  subst hN
  exact ⟨rfl, hr.off (only_self5 _ _ _ _ _ _ _) (by omega) hb, ho.set5 (Nat.le_refl _) _ _ _ _ _⟩
set_option maxHeartbeats 4000000 in
theorem Get_walk (g : Nat) (r : Vl × List UInt8 × Int) (w : World) (hg : g < w.heap.size) (hq : ∀ W, Below w.heap.size w W → Calls Tryz.prog 192 #[.pointer (some ⟨g, 0, none⟩)] W (ReadP g r W)) (hre : ∀ W, RdR W g r.2.1 r.2.2 → Calls Tryz.prog 45 #[.pointer (some ⟨g, 0, none⟩)] W (VGv (.int .i64 r.2.2) W))
    (v : Vl) (er : Int) (hcase : ((r.2.2 != 0) = true ∧ v = vZero ∧ er = r.2.2) ∨ ((r.2.2 != 0) = false ∧ (r.1.k == 0) = true ∧ v = vZero ∧ er = 12) ∨ ((r.2.2 != 0) = false ∧ (r.1.k == 0) = false ∧ v = r.1 ∧ er = 0)) :
    Calls Tryz.prog 153 #[.pointer (some ⟨g, 0, none⟩)] w (GetP g v er r.2.1 r.2.2 w) := by
  obtain ⟨x, r2, e2⟩ := r
  simp only at *
  have HW0 := Lib.hid ((Below.refl w.heap.size w).alloc (Nat.le_refl _) (.cells #[.int .i64 0, .int .i64 0, .bool false, .string ⟨#[]⟩, .float .f64 0] 25))
  have HB0 := Lib.hid (heap_alloc_new w (.cells #[.int .i64 0, .int .i64 0, .bool false, .string ⟨#[]⟩, .float .f64 0] 25))
  have hne : w.heap.size ≠ g := by omega
  have HQ := Lib.hid hq
  have HE := Lib.hid hre
  have HG := Lib.hid hg
  have HC := Lib.hid hcase
  clear hq hre hg hcase
  have hsf := fun (w : World) (a : Addr) (m : Mode) (b : Nat) => run_store Tryz.prog w a (.float .f64 b) m rfl
  go_enter Tryz.func153, Tryz.ntmps153
  go_wp2_with fail
  refine (HQ.out _ HW0.out).mono ?_
  rintro e wA ⟨rfl, hr1, ho1⟩
  have hzA : w.heap.size < wA.heap.size := by have := ho1.size; simp at this; omega
  have HO1 := Lib.hid ((Only.trans' (w := w) HW0.out ho1).below ((Below.refl _ _).alloc (Nat.le_refl _) (.cells #[.int .i64 x.k, .int .i64 x.i, .bool x.b, .string x.s, .float .f64 x.n] 25)))
  have hn1 := (ho1.block w.heap.size (by simp) (by intro e; injection e with e; exact hne e)).trans HB0.out
  have hbl : Below wA.heap.size wA (wA.alloc (.cells #[.int .i64 x.k, .int .i64 x.i, .bool x.b, .string x.s, .float .f64 x.n] 25)) := (Below.refl _ _).alloc (Nat.le_refl _) _
  have HN1 := Lib.hid ((hbl.block w.heap.size hzA).trans hn1)
  have HR1 := Lib.hid (hr1.below hbl)
  have HX := Lib.hid (Bx.new wA x)
  clear hr1 ho1 hn1 hbl
  go_upto_region 2 with fail
  generalize hwc : wA.alloc (.cells #[.int .i64 x.k, .int .i64 x.i, .bool x.b, .string x.s, .float .f64 x.n] 25) = wc at *
  have hzc : w.heap.size < wc.heap.size := by rw [← hwc]; simp; omega
  clear hwc hzA
  generalize wA.heap.size = bx at *
  have hc0 := (cell_of_row wc w.heap.size 0 _ _ (0, 0) HN1.out).trans rfl
  have hc1 := (cell_of_row wc w.heap.size 1 _ _ (0, 0) HN1.out).trans rfl
  have hc2 := (cell_of_row wc w.heap.size 2 _ _ (0, 0) HN1.out).trans rfl
  have hc3 := (cell_of_row wc w.heap.size 3 _ _ (0, 0) HN1.out).trans rfl
  have hc4 := (cell_of_row wc w.heap.size 4 _ _ (0, 0) HN1.out).trans rfl
  have hfr : ∀ j, wc.frozen? ⟨w.heap.size, j, none⟩ = false := fun j => by
    have h := HN1.out
    simp [World.frozen?, h]
  go_wp2_with fail
  refine (HE.out _ HR1.out).mono ?_
  rintro e w' ⟨rfl, rfl⟩
  obtain ⟨x0, x1, x2, x3, x4⟩ := HX.out
  rcases HC.out with ⟨t1, rfl, rfl⟩ | ⟨t1, t2, rfl, rfl⟩ | ⟨t1, t2, rfl, rfl⟩
  · go_wp2
    exact bodyPost_ret (v := pairVE vZero er) (by simp [results, Tryz.results153, go_sem, hc0, hc1, hc2, hc3, hc4]) rfl (GetP.mk rfl HR1.out HO1.out HG.out HN1.out _ _ _ _ _)
  · go_wp2
    exact bodyPost_ret (v := pairVE vZero 12) (by simp [results, Tryz.results153, go_sem, hc0, hc1, hc2, hc3, hc4]) rfl (GetP.mk rfl HR1.out HO1.out HG.out HN1.out _ _ _ _ _)
  · go_wp2
    exact bodyPost_ret (v := pairVE v 0) (by simp [results, Tryz.results153, go_sem, hc0, hc1, hc2, hc3, hc4]) rfl (GetP.mk rfl HR1.out HO1.out HG.out HN1.out _ _ _ _ _)

theorem Get_any (g : Nat) (rest : List UInt8) (e : Int) (w : World) (hr : RdR w g rest e) (hlen : rest.length ≤ 1000000000000) : Calls Tryz.prog 153 #[.pointer (some ⟨g, 0, none⟩)] w (GetP g (getV rest e) (getE rest e) (readF rest e).2.1 (readF rest e).2.2 w) := by
  refine Get_walk g (readF rest e) w hr.lt (fun W hb => read_any g rest e W (hr.below hb) hlen) (fun W h => (Err_any g _ _ W h)) (getV rest e) (getE rest e) ?_
  unfold getV getE
  by_cases h0 : (readF rest e).2.2 = 0
  · right
    rw [if_pos h0, if_pos h0]
    by_cases hk : (readF rest e).1.k = 0
    · left
      have hz : (readF rest e).1 = vZero := by
        revert hk
        unfold readF
        split
        · intro h; cases h
        split
        · intro h; cases h
        split
        · intro h; cases h
        split
        · intro h; cases h
        · intro _; rfl
      rw [if_pos hk, hz, h0]
      exact ⟨rfl, rfl, rfl, rfl⟩
    · right
      rw [if_neg hk, h0]
      exact ⟨rfl, by simpa using hk, rfl, rfl⟩
  · left
    rw [if_neg h0, if_neg h0]
    exact ⟨by simpa using h0, rfl, rfl⟩
end Go.Proofs.YtkhpgejammgolaaGreat

/- Layer 4: values out of bytes, by the document. (Made by gen/genvrget.py.) -/
namespace Go.Proofs.YtkhpgejammgolaaGreat
open Go.RowKit
set_option linter.unusedVariables false
set_option linter.unusedSimpArgs false
set_option maxRecDepth 20000

/-- a block that holds just a value -/
def Bh (W : World) (b : Nat) (v : Vl) : Prop := W.heap[b]? = some (.cells #[.int .i64 v.k, .int .i64 v.i, .bool v.b, .string v.s, .float .f64 v.n] 25 (0, 0))
theorem Bh.lt {W : World} {b : Nat} {v : Vl} (h : Bh W b v) : b < W.heap.size := (Array.getElem?_eq_some_iff.1 h).1
theorem Bh.bx {W : World} {b : Nat} {v : Vl} (h : Bh W b v) : Bx W b v := ⟨(cell_of_row _ _ 0 _ _ (0, 0) h).trans rfl, (cell_of_row _ _ 1 _ _ (0, 0) h).trans rfl, (cell_of_row _ _ 2 _ _ (0, 0) h).trans rfl, (cell_of_row _ _ 3 _ _ (0, 0) h).trans rfl, (cell_of_row _ _ 4 _ _ (0, 0) h).trans rfl⟩
theorem Bh.below {W W' : World} {b : Nat} {v : Vl} (h : Bh W b v) (hb : Below W.heap.size W W') : Bh W' b v := (hb.block b h.lt).trans h
theorem Bh.only {W W' : World} {b g : Nat} {v : Vl} (h : Bh W b v) (ho : Only g W W') (hne : b ≠ g) : Bh W' b v := (ho.block b h.lt (by intro e; injection e with e; exact hne e)).trans h
theorem Bh.set5 {W : World} {b : Nat} {v0 : Vl} (h : Bh W b v0) (v : Vl) : Bh (((((W.setCell ⟨b, 0, none⟩ (.int .i64 v.k)).setCell ⟨b, 1, none⟩ (.int .i64 v.i)).setCell ⟨b, 2, none⟩ (.bool v.b)).setCell ⟨b, 3, none⟩ (.string v.s)).setCell ⟨b, 4, none⟩ (.float .f64 v.n)) b v := by
  unfold Bh at h ⊢
  simp [World.setCell, Array.getElem?_modify, h]
/-- what Get answers -/
def GetR (g : Nat) (v : Vl) (er : Int) (rest : List UInt8) (err : Int) (w : World) (e : Ending) (w' : World) : Prop := e = .returned (pairVE v er) ∧ RfS w' g rest err ∧ Only g w w'
theorem GetR.mk {g N : Nat} {v v0 : Vl} {er : Int} {rest : List UInt8} {err : Int} {w wB : World} (hN : N = w.heap.size) (hr : RfS wB g rest err) (ho : Only g w wB) (hg : g < w.heap.size) (hb : Bh wB N v0) (u0 u1 u2 u3 u4 : Value) :
    GetR g v er rest err w (.returned (pairVE v er)) (((((wB.setCell ⟨N, 0, none⟩ u0).setCell ⟨N, 1, none⟩ u1).setCell ⟨N, 2, none⟩ u2).setCell ⟨N, 3, none⟩ u3).setCell ⟨N, 4, none⟩ u4) := by
  subst hN
  exact ⟨rfl, hr.off (only_self5 _ _ _ _ _ _ _) (by omega) hb, ho.set5 (Nat.le_refl _) _ _ _ _ _⟩
theorem GetR.drew {g : Nat} {v : Vl} {er : Int} {rest : List UInt8} {err : Int} {w wB : World} {e : Ending} (h : GetR g v er rest err w e wB) : GetR g v er rest err w e wB.drew := by
  obtain ⟨h1, h2, h3⟩ := h
  exact ⟨h1, h2.below ((Below.refl _ _).drew), h3.below ((Below.refl _ _).drew)⟩

end Go.Proofs.YtkhpgejammgolaaGreat

/- Layer 4: two readers beside one another; Get by the document, any. -/
namespace Go.Proofs.YtkhpgejammgolaaGreat
open Go.RowKit
set_option linter.unusedVariables false
set_option linter.unusedSimpArgs false
set_option maxRecDepth 20000

/-- bytes do not lie in a block without bytes -/
theorem Bs.not_in {w : World} {N : Nat} {v : Value} {l : List UInt8} {cs : Array Value} {t : TypeId} {fr : Nat × Nat} (h : Bs w v l) (hN : w.heap[N]? = some (.cells cs t fr)) (hy : ∀ (j : Nat) (b : UInt8), cs[j]? ≠ some (bc b)) (hl : l ≠ []) : ∀ k, v.ownBlock = some k → k ≠ N := by
  obtain ⟨A, c, hv, hc, hm, hn, hx⟩ := h
  have hl' : l.map bc ≠ [] := by simpa using hl
  obtain ⟨ad, ha, hb, hr⟩ := hx hl'
  intro k hk e
  have hown : v.ownBlock = some ad.block := by rw [hv, ha]; rfl
  rw [hown] at hk
  injection hk with hk
  obtain ⟨b, l', rfl⟩ := List.exists_cons_of_ne_nil hl
  have h0 := hr 0 (bc b) rfl
  rw [Addr.add_zero'] at h0
  simp only [World.cell?, hk, e, hN] at h0
  split at h0
  · cases h0
  · exact hy _ b h0
theorem Bs.offC {w w' : World} {N : Nat} {v : Value} {l : List UInt8} {cs : Array Value} {t : TypeId} {fr : Nat × Nat} (h : Bs w v l) (ho : Only N w w') (hN : w.heap[N]? = some (.cells cs t fr)) (hy : ∀ (j : Nat) (b : UInt8), cs[j]? ≠ some (bc b)) : Bs w' v l :=
  h.offN ho (fun hl => h.not_in hN hy hl)
theorem Ty.offC {w w' : World} {N : Nat} {v : Value} {l : List UInt8} (h : Ty w v l) (ho : Only N w w') (hN : l ≠ [] → ∀ k, v.ownBlock = some k → k ≠ N) : Ty w' v l := by
  intro hl k hk
  obtain ⟨cs, fr, hg⟩ := h hl k hk
  exact ⟨cs, fr, (ho.block k (Array.getElem?_eq_some_iff.1 hg).1 (by intro e; injection e with e; exact hN hl k hk e)).trans hg⟩
theorem RdR.cells {w : World} {g : Nat} {rest : List UInt8} {err : Int} (h : RdR w g rest err) : ∃ cs, w.heap[g]? = some (.cells cs 83 (0, 0)) ∧ ∀ (j : Nat) (b : UInt8), cs[j]? ≠ some (bc b) := by
  obtain ⟨rv, hh, hb⟩ := h
  obtain ⟨A, c, rfl, -⟩ := hb.1.open
  exact ⟨_, hh, no_bytes _ _ _ _⟩
theorem RfS.cells {w : World} {g : Nat} {rest : List UInt8} {e : Int} (h : RfS w g rest e) : ∃ cs, w.heap[g]? = some (.cells cs 35 (0, 0)) ∧ ∀ (j : Nat) (b : UInt8), cs[j]? ≠ some (bc b) := by
  obtain ⟨bs, i, ⟨bv, hh, hb, -⟩, -⟩ := h
  obtain ⟨A, c, rfl, -⟩ := hb.1.open
  exact ⟨_, hh, no_bytes3 _ _ _ _ _⟩
theorem Bx.only {w w' : World} {b N : Nat} {v : Vl} (h : Bx w b v) (ho : Only N w w') (hne : b ≠ N) : Bx w' b v := by
  have hl : b < w.heap.size := World.block_lt_of_cell? w _ h.1
  have hh : ∀ j, w'.cell? ⟨b, j, none⟩ = w.cell? ⟨b, j, none⟩ := fun j => World.cell?_of_block (a := ⟨b, j, none⟩) (ho.block b hl (by intro e; injection e with e; exact hne e))
  exact ⟨(hh 0).trans h.1, (hh 1).trans h.2.1, (hh 2).trans h.2.2.1, (hh 3).trans h.2.2.2.1, (hh 4).trans h.2.2.2.2⟩

theorem get_ok {rest r2 : List UInt8} {e : Int} {v : Vl} (h : readF rest e = (v, r2, 0)) (hk : v.k ≠ 0) : getV rest e = v ∧ getE rest e = 0 ∧ (readF rest e).2.1 = r2 ∧ (readF rest e).2.2 = 0 := by
  unfold getV getE
  rw [h]
  exact ⟨rfl, if_neg hk, rfl, rfl⟩
theorem get_no {rest r2 : List UInt8} {e e2 : Int} {v : Vl} (h : readF rest e = (v, r2, e2)) (he : e2 ≠ 0) : getV rest e = vZero ∧ getE rest e = e2 ∧ (readF rest e).2.1 = r2 ∧ (readF rest e).2.2 = e2 := by
  unfold getV getE
  rw [h]
  exact ⟨if_neg he, if_neg he, rfl, rfl⟩
theorem readF_1 {rest r1 r2 : List UInt8} {e e1 e2 : Int} {n m : Nat} (hst : stepF 8 alInt rest e = (n, r1, e1)) (hk : wrap64 (n : Int) = 1) (ht : stepF 8 alInt r1 e1 = (m, r2, e2)) : readF rest e = (vInt (wrap64 (m : Int)), r2, e2) := by
  unfold readF
  rw [hst]
  simp only
  rw [if_pos hk, ht]
theorem readF_2 {rest r1 r2 : List UInt8} {e e1 e2 : Int} {n m : Nat} (hst : stepF 8 alInt rest e = (n, r1, e1)) (hk : wrap64 (n : Int) = 2) (ht : stepF 1 alBool r1 e1 = (m, r2, e2)) : readF rest e = (vTruth (decide (m = 1)), r2, e2) := by
  unfold readF
  rw [hst]
  simp only
  rw [if_neg (by omega), if_pos hk, ht]
theorem readF_3 {rest r1 r2 : List UInt8} {e e1 e2 : Int} {n : Nat} {m : List UInt8} (hst : stepF 8 alInt rest e = (n, r1, e1)) (hk : wrap64 (n : Int) = 3) (ht : bytesF 32 r1 e1 = (m, r2, e2)) : readF rest e = (⟨3, 0, false, strB m, 0⟩, r2, e2) := by
  unfold readF
  rw [hst]
  simp only
  rw [if_neg (by omega), if_neg (by omega), if_pos hk, ht]
theorem readF_4 {rest r1 r2 : List UInt8} {e e1 e2 : Int} {n m : Nat} (hst : stepF 8 alInt rest e = (n, r1, e1)) (hk : wrap64 (n : Int) = 4) (ht : stepF 8 alNum r1 e1 = (m, r2, e2)) : readF rest e = (vNum m, r2, e2) := by
  unfold readF
  rw [hst]
  simp only
  rw [if_neg (by omega), if_neg (by omega), if_neg (by omega), if_pos hk, ht]
theorem readF_0 {rest r1 : List UInt8} {e e1 : Int} {n : Nat} (hst : stepF 8 alInt rest e = (n, r1, e1)) (h1 : wrap64 (n : Int) ≠ 1) (h2 : wrap64 (n : Int) ≠ 2) (h3 : wrap64 (n : Int) ≠ 3) (h4 : wrap64 (n : Int) ≠ 4) : readF rest e = (vZero, r1, e1) := by
  unfold readF
  rw [hst]
  simp only
  rw [if_neg h1, if_neg h2, if_neg h3, if_neg h4]

end Go.Proofs.YtkhpgejammgolaaGreat

/- Layer 4: values as bytes, by the program and by the document. (Made by gen/genvput.py.) -/
namespace Go.Proofs.YtkhpgejammgolaaGreat
open Go.RowKit
set_option linter.unusedVariables false
set_option linter.unusedSimpArgs false
set_option maxRecDepth 20000

/-- 4.5: a value's bytes -/
def valB (v : Vl) : List UInt8 := be 8 (w64 v.k) ++ (if v.k = 1 then be 8 (w64 v.i) else if v.k = 2 then be 1 v.b.toNat else if v.k = 3 then be 4 v.s.data.toList.length ++ v.s.data.toList else if v.k = 4 then be 8 (numW v.n) else [])
/-- new memory, a row of one's own, that reads as bytes -/
def PutsV (w : World) (l : List UInt8) (e : Ending) (w' : World) : Prop := ∃ v' B, e = .returned v' ∧ w.heap.size ≤ B ∧ w'.ownsRow B 5 1 v' l.length (l.map bc) ∧ Below w.heap.size w w'
theorem PutsV.bs {w w' : World} {l : List UInt8} {e : Ending} (h : PutsV w l e w') : ∃ v', e = .returned v' ∧ Bs w' v' l ∧ Below w.heap.size w w' := by
  obtain ⟨v', B, rfl, -, h, hb⟩ := h
  exact ⟨v', rfl, Rd.of_own h, hb⟩
theorem PutsV.mk {w wa wb w' : World} {l m : List UInt8} {e : Ending} (h : Puts wb m e w') (hw : Below w.heap.size w wa) (hab : Below wa.heap.size wa wb) (hl : m = l) : PutsV w l e w' := by
  subst hl
  obtain ⟨v', rfl, h, hb⟩ := h
  have h1 := hw.trans (hab.mono hw.size)
  exact ⟨v', wb.heap.size, rfl, h1.size, h, h1.trans (hb.mono h1.size)⟩
set_option maxHeartbeats 2000000 in
theorem Put_1 (v : Vl) (y : Value) (l : List UInt8) (w : World) (hk : v.k = 1) (hy : Bs w y l) (hl : l.length ≤ 100000) (hs : v.s.data.toList.length ≤ 100000) (hn : v.n < 18446744073709551616) : Calls Tryz.prog 101 #[y, agV v] w (PutsV w (l ++ valB v)) := by
  have hk1 : (v.k == 1) = true := by rw [hk]; rfl
  have hk2 : (v.k == 2) = false := by rw [hk]; rfl
  have hk3 : (v.k == 3) = false := by rw [hk]; rfl
  have hk4 : (v.k == 4) = false := by rw [hk]; rfl
  have hb : valB v = be 8 (w64 v.k) ++ (be 8 (w64 v.i)) := by unfold valB; rw [if_pos hk]
  rw [hb]; clear hb hk
  have q1 : ∀ W, Below w.heap.size w W → Calls Tryz.prog 100 #[y, .int .i64 v.k] W (Puts W (l ++ be 8 (w64 v.k))) := fun W hb => PutInt_any y l v.k W (Rd.below hy hb (Nat.le_refl _)) (by omega)
  have hlen : (l ++ be 8 (w64 v.k)).length ≤ 100008 := by rw [List.length_append, be_length]; omega
  have q2 : ∀ W z, Bs W z (l ++ be 8 (w64 v.k)) → Calls Tryz.prog 100 #[z, .int .i64 v.i] W (Puts W (l ++ be 8 (w64 v.k) ++ be 8 (w64 v.i))) := fun W z hz => PutInt_any z _ v.i W hz (by omega)
  have HW := Lib.hid ((Below.refl w.heap.size w).alloc (Nat.le_refl _) (.cells #[.int .i64 v.k, .int .i64 v.i, .bool v.b, .string v.s, .float .f64 v.n] 25))
  have Q1 := Lib.hid q1
  have Q2 := Lib.hid q2
  clear q1 hy hl hs hn hlen q2
  have tok1 : True := trivial
  go_enter Tryz.func101, Tryz.ntmps101
  go_wp2_with (first
    | (go_at_call 100; have _t := tok1; ((with_reducible refine (Q1.out _ (Below.refl _ _ |>.alloc (Nat.le_refl _) _)).mono ?_); intro e w1 hp1; obtain ⟨v1, rfl, hown1, hb1⟩ := hp1; obtain ⟨hc1, hf1⟩ := bcell hb1; have HO1 := Lib.hid hown1; clear hown1; clear tok1 _t))
    | (go_at_call 100; refine (Q2.out _ _ (Rd.of_own HO1.out)).mono ?_; intro e w2 hp2; have HP2 := Lib.hid hp2; clear hp2; obtain ⟨v2, rfl, -, -⟩ := HP2.out))
  go_ret
  exact PutsV.mk HP2.out (HW.out.trans (hb1.mono HW.out.size)) (Below.refl _ _) (by simp)

set_option maxHeartbeats 2000000 in
theorem Put_2 (v : Vl) (y : Value) (l : List UInt8) (w : World) (hk : v.k = 2) (hy : Bs w y l) (hl : l.length ≤ 100000) (hs : v.s.data.toList.length ≤ 100000) (hn : v.n < 18446744073709551616) : Calls Tryz.prog 101 #[y, agV v] w (PutsV w (l ++ valB v)) := by
  have hk1 : (v.k == 1) = false := by rw [hk]; rfl
  have hk2 : (v.k == 2) = true := by rw [hk]; rfl
  have hk3 : (v.k == 3) = false := by rw [hk]; rfl
  have hk4 : (v.k == 4) = false := by rw [hk]; rfl
  have hb : valB v = be 8 (w64 v.k) ++ (be 1 v.b.toNat) := by unfold valB; rw [if_neg (by omega), if_pos hk]
  rw [hb]; clear hb hk
  have q1 : ∀ W, Below w.heap.size w W → Calls Tryz.prog 100 #[y, .int .i64 v.k] W (Puts W (l ++ be 8 (w64 v.k))) := fun W hb => PutInt_any y l v.k W (Rd.below hy hb (Nat.le_refl _)) (by omega)
  have hlen : (l ++ be 8 (w64 v.k)).length ≤ 100008 := by rw [List.length_append, be_length]; omega
  have q2 : ∀ W z, Bs W z (l ++ be 8 (w64 v.k)) → Calls Tryz.prog 159 #[z, .bool v.b] W (Puts W (l ++ be 8 (w64 v.k) ++ be 1 v.b.toNat)) := fun W z hz => PutBool_any z _ v.b W hz (by omega)
  have HW := Lib.hid ((Below.refl w.heap.size w).alloc (Nat.le_refl _) (.cells #[.int .i64 v.k, .int .i64 v.i, .bool v.b, .string v.s, .float .f64 v.n] 25))
  have Q1 := Lib.hid q1
  have Q2 := Lib.hid q2
  clear q1 hy hl hs hn hlen q2
  have tok1 : True := trivial
  go_enter Tryz.func101, Tryz.ntmps101
  go_wp2_with (first
    | (go_at_call 100; have _t := tok1; ((with_reducible refine (Q1.out _ (Below.refl _ _ |>.alloc (Nat.le_refl _) _)).mono ?_); intro e w1 hp1; obtain ⟨v1, rfl, hown1, hb1⟩ := hp1; obtain ⟨hc1, hf1⟩ := bcell hb1; have HO1 := Lib.hid hown1; clear hown1; clear tok1 _t))
    | (go_at_call 159; refine (Q2.out _ _ (Rd.of_own HO1.out)).mono ?_; intro e w2 hp2; have HP2 := Lib.hid hp2; clear hp2; obtain ⟨v2, rfl, -, -⟩ := HP2.out))
  go_ret
  exact PutsV.mk HP2.out (HW.out.trans (hb1.mono HW.out.size)) (Below.refl _ _) (by simp)

set_option maxHeartbeats 2000000 in
theorem Put_3 (v : Vl) (y : Value) (l : List UInt8) (w : World) (hk : v.k = 3) (hy : Bs w y l) (hl : l.length ≤ 100000) (hs : v.s.data.toList.length ≤ 100000) (hn : v.n < 18446744073709551616) : Calls Tryz.prog 101 #[y, agV v] w (PutsV w (l ++ valB v)) := by
  have hk1 : (v.k == 1) = false := by rw [hk]; rfl
  have hk2 : (v.k == 2) = false := by rw [hk]; rfl
  have hk3 : (v.k == 3) = true := by rw [hk]; rfl
  have hk4 : (v.k == 4) = false := by rw [hk]; rfl
  have hb : valB v = be 8 (w64 v.k) ++ (be 4 v.s.data.toList.length ++ v.s.data.toList) := by unfold valB; rw [if_neg (by omega), if_neg (by omega), if_pos hk]
  rw [hb]; clear hb hk
  have q1 : ∀ W, Below w.heap.size w W → Calls Tryz.prog 100 #[y, .int .i64 v.k] W (Puts W (l ++ be 8 (w64 v.k))) := fun W hb => PutInt_any y l v.k W (Rd.below hy hb (Nat.le_refl _)) (by omega)
  have hlen : (l ++ be 8 (w64 v.k)).length ≤ 100008 := by rw [List.length_append, be_length]; omega
  have hcv := fun (W : World) => Lib.run_convert_string_bytes (P := Tryz.prog) W 9 28 5 v.s Tryz.underlying9 Tryz.underlying28 Tryz.underlying5
  have hbw : ∀ W, Bs (Lib.bytesWorld W 5 v.s) (.slice (some ⟨W.heap.size, 0, none⟩) v.s.size (grownCap W v.s.size 0 5)) v.s.data.toList := fun W => by
    have h := bytesWorld_bs W v.s.data.toList (by unfold maxLen; omega) _ rfl
    rwa [← strB_of v.s] at h
  have q2 : ∀ W z u, Bs W z (l ++ be 8 (w64 v.k)) → Bs W u v.s.data.toList → Calls Tryz.prog 102 #[z, u] W (Puts W (l ++ be 8 (w64 v.k) ++ be 4 v.s.data.toList.length ++ v.s.data.toList)) := fun W z u hz hu => PutBytes_any z u _ _ W hz hu (by omega) (by omega)
  have HBW := Lib.hid hbw
  have HW := Lib.hid ((Below.refl w.heap.size w).alloc (Nat.le_refl _) (.cells #[.int .i64 v.k, .int .i64 v.i, .bool v.b, .string v.s, .float .f64 v.n] 25))
  have Q1 := Lib.hid q1
  have Q2 := Lib.hid q2
  clear q1 hy hl hs hn hlen q2 hbw
  have tok1 : True := trivial
  go_enter Tryz.func101, Tryz.ntmps101
  go_wp2_with (first
    | (go_at_call 100; have _t := tok1; ((with_reducible refine (Q1.out _ (Below.refl _ _ |>.alloc (Nat.le_refl _) _)).mono ?_); intro e w1 hp1; obtain ⟨v1, rfl, hown1, hb1⟩ := hp1; obtain ⟨hc1, hf1⟩ := bcell hb1; have HO1 := Lib.hid hown1; clear hown1; clear tok1 _t))
    | (go_at_call 102; refine (Q2.out _ _ _ (Rd.below (Rd.of_own HO1.out) (bytesWorld_below _ _ _) (Nat.le_refl _)) (HBW.out w1)).mono ?_; intro e w2 hp2; have HP2 := Lib.hid hp2; clear hp2; obtain ⟨v2, rfl, -, -⟩ := HP2.out))
  go_ret
  exact PutsV.mk HP2.out (HW.out.trans (hb1.mono HW.out.size)) (bytesWorld_below _ _ _) (by simp)

set_option maxHeartbeats 2000000 in
theorem Put_4 (v : Vl) (y : Value) (l : List UInt8) (w : World) (hk : v.k = 4) (hy : Bs w y l) (hl : l.length ≤ 100000) (hs : v.s.data.toList.length ≤ 100000) (hn : v.n < 18446744073709551616) : Calls Tryz.prog 101 #[y, agV v] w (PutsV w (l ++ valB v)) := by
  have hk1 : (v.k == 1) = false := by rw [hk]; rfl
  have hk2 : (v.k == 2) = false := by rw [hk]; rfl
  have hk3 : (v.k == 3) = false := by rw [hk]; rfl
  have hk4 : (v.k == 4) = true := by rw [hk]; rfl
  have hb : valB v = be 8 (w64 v.k) ++ (be 8 (numW v.n)) := by unfold valB; rw [if_neg (by omega), if_neg (by omega), if_neg (by omega), if_pos hk]
  rw [hb]; clear hb hk
  have q1 : ∀ W, Below w.heap.size w W → Calls Tryz.prog 100 #[y, .int .i64 v.k] W (Puts W (l ++ be 8 (w64 v.k))) := fun W hb => PutInt_any y l v.k W (Rd.below hy hb (Nat.le_refl _)) (by omega)
  have hlen : (l ++ be 8 (w64 v.k)).length ≤ 100008 := by rw [List.length_append, be_length]; omega
  have q2 : ∀ W z, Bs W z (l ++ be 8 (w64 v.k)) → Calls Tryz.prog 160 #[z, .float .f64 v.n] W (Puts W (l ++ be 8 (w64 v.k) ++ be 8 (numW v.n))) := fun W z hz => PutNum_any z _ v.n W hz (by omega) hn
  have HW := Lib.hid ((Below.refl w.heap.size w).alloc (Nat.le_refl _) (.cells #[.int .i64 v.k, .int .i64 v.i, .bool v.b, .string v.s, .float .f64 v.n] 25))
  have Q1 := Lib.hid q1
  have Q2 := Lib.hid q2
  clear q1 hy hl hs hn hlen q2
  have tok1 : True := trivial
  go_enter Tryz.func101, Tryz.ntmps101
  go_wp2_with (first
    | (go_at_call 100; have _t := tok1; ((with_reducible refine (Q1.out _ (Below.refl _ _ |>.alloc (Nat.le_refl _) _)).mono ?_); intro e w1 hp1; obtain ⟨v1, rfl, hown1, hb1⟩ := hp1; obtain ⟨hc1, hf1⟩ := bcell hb1; have HO1 := Lib.hid hown1; clear hown1; clear tok1 _t))
    | (go_at_call 160; refine (Q2.out _ _ (Rd.of_own HO1.out)).mono ?_; intro e w2 hp2; have HP2 := Lib.hid hp2; clear hp2; obtain ⟨v2, rfl, -, -⟩ := HP2.out))
  go_ret
  exact PutsV.mk HP2.out (HW.out.trans (hb1.mono HW.out.size)) (Below.refl _ _) (by simp)

set_option maxHeartbeats 2000000 in
theorem Put_0 (v : Vl) (y : Value) (l : List UInt8) (w : World) (h1 : v.k ≠ 1) (h2 : v.k ≠ 2) (h3 : v.k ≠ 3) (h4 : v.k ≠ 4) (hy : Bs w y l) (hl : l.length ≤ 100000) (hs : v.s.data.toList.length ≤ 100000) (hn : v.n < 18446744073709551616) : Calls Tryz.prog 101 #[y, agV v] w (PutsV w (l ++ valB v)) := by
  have hk1 : (v.k == 1) = false := by simpa using h1
  have hk2 : (v.k == 2) = false := by simpa using h2
  have hk3 : (v.k == 3) = false := by simpa using h3
  have hk4 : (v.k == 4) = false := by simpa using h4
  have hb : valB v = be 8 (w64 v.k) ++ ([]) := by unfold valB; rw [if_neg h1, if_neg h2, if_neg h3, if_neg h4]
  rw [hb]; clear hb h1 h2 h3 h4
  have q1 : ∀ W, Below w.heap.size w W → Calls Tryz.prog 100 #[y, .int .i64 v.k] W (Puts W (l ++ be 8 (w64 v.k))) := fun W hb => PutInt_any y l v.k W (Rd.below hy hb (Nat.le_refl _)) (by omega)
  have hlen : (l ++ be 8 (w64 v.k)).length ≤ 100008 := by rw [List.length_append, be_length]; omega
  have HW := Lib.hid ((Below.refl w.heap.size w).alloc (Nat.le_refl _) (.cells #[.int .i64 v.k, .int .i64 v.i, .bool v.b, .string v.s, .float .f64 v.n] 25))
  have Q1 := Lib.hid q1
  clear q1 hy hl hs hn hlen
  have tok1 : True := trivial
  go_enter Tryz.func101, Tryz.ntmps101
  go_wp2_with (first
    | (go_at_call 100; have _t := tok1; ((with_reducible refine (Q1.out _ (Below.refl _ _ |>.alloc (Nat.le_refl _) _)).mono ?_); intro e w1 hp1; obtain ⟨v1, rfl, hown1, hb1⟩ := hp1; obtain ⟨hc1, hf1⟩ := bcell hb1; have HO1 := Lib.hid hown1; clear hown1; clear tok1 _t)))
  go_ret
  exact PutsV.mk ⟨_, rfl, HO1.out, hb1⟩ HW.out (Below.refl _ _) (by simp)

theorem Put_val (v : Vl) (y : Value) (l : List UInt8) (w : World) (hy : Bs w y l) (hl : l.length ≤ 100000) (hs : v.s.data.toList.length ≤ 100000) (hn : v.n < 18446744073709551616) : Calls Tryz.prog 101 #[y, agV v] w (PutsV w (l ++ valB v)) := by
  by_cases h1 : v.k = 1
  · exact Put_1 v y l w h1 hy hl hs hn
  by_cases h2 : v.k = 2
  · exact Put_2 v y l w h2 hy hl hs hn
  by_cases h3 : v.k = 3
  · exact Put_3 v y l w h3 hy hl hs hn
  by_cases h4 : v.k = 4
  · exact Put_4 v y l w h4 hy hl hs hn
  exact Put_0 v y l w h1 h2 h3 h4 hy hl hs hn

end Go.Proofs.YtkhpgejammgolaaGreat

/- Layer 4: Order by the document. -/
namespace Go.Proofs.YtkhpgejammgolaaGreat
open Go.RowKit
set_option linter.unusedVariables false
set_option linter.unusedSimpArgs false
set_option maxRecDepth 20000

end Go.Proofs.YtkhpgejammgolaaGreat

/- Layer 4: Equal, Less by the document. -/
namespace Go.Proofs.YtkhpgejammgolaaGreat
open Go.RowKit
set_option linter.unusedVariables false
set_option linter.unusedSimpArgs false
set_option maxRecDepth 20000

end Go.Proofs.YtkhpgejammgolaaGreat

/- Layer 4: what the laws begin with: boxes and a row of values; ValueCompares. -/
namespace Go.Proofs.YtkhpgejammgolaaGreat
open Go.RowKit
set_option linter.unusedVariables false
set_option linter.unusedSimpArgs false
set_option maxRecDepth 20000

end Go.Proofs.YtkhpgejammgolaaGreat

/- Layer 4: ValueCodes. -/
namespace Go.Proofs.YtkhpgejammgolaaGreat
open Go.RowKit
set_option linter.unusedVariables false
set_option linter.unusedSimpArgs false
set_option maxRecDepth 20000

theorem Bs.alloc {W : World} {v : Value} {l : List UInt8} (h : Bs W v l) (o : Obj) : Bs (W.alloc o) v l := Bs.below h ((Below.refl _ _).alloc (Nat.le_refl _) o) (Nat.le_refl _)

end Go.Proofs.YtkhpgejammgolaaGreat

/- Layer 2: digests of parts, by the program and by the document. -/
namespace Go.Proofs.YtkhpgejammgolaaGreat
open Go.RowKit
set_option linter.unusedVariables false

end Go.Proofs.YtkhpgejammgolaaGreat

/- Layer 4: ValueBack. -/
namespace Go.Proofs.YtkhpgejammgolaaGreat
open Go.RowKit
set_option linter.unusedVariables false
set_option linter.unusedSimpArgs false
set_option maxRecDepth 20000

/-- a value with its NaN as the NaN -/
def normV (v : Vl) : Vl := ⟨v.k, v.i, v.b, v.s, if v.k = 4 then numW v.n else v.n⟩
theorem same_norm (v : Vl) : sameV v (normV v) = true := by
  unfold sameV normV
  by_cases h : v.k = 4
  · simp [h, numW_numW]
  · simp [h]
theorem empty_of {s : ByteArray} (h : s.toList.isEmpty = true) : s = ⟨#[]⟩ := by
  rw [strB_of s, strB_list] at h
  rw [strB_of s, List.isEmpty_iff.1 h]
  rfl
theorem bytes_32 (l rest : List UInt8) (hl : l.length ≤ 32) : bytesF 32 (be 4 l.length ++ l ++ rest) 0 = (l, rest, 0) := by
  have hs : stepF 4 (alBytes 32 (be 4 l.length ++ l ++ rest)) (be 4 l.length ++ l ++ rest) 0 = (l.length, l ++ rest, 0) := by
    rw [List.append_assoc]
    refine stepF_be 4 _ _ _ (by omega) ?_
    have hc : ceilE (max 32 0) 11 (l.length : Int) = 0 := by unfold ceilE; rw [if_neg (by omega)]
    unfold alBytes roomE
    simp only [List.length_append, be_length]
    rw [hc, if_pos rfl, if_neg (by omega)]
  unfold bytesF
  rw [hs]
  by_cases h0 : l.length = 0
  · have : l = [] := List.eq_nil_of_length_eq_zero h0
    subst this
    rfl
  · rw [if_neg h0]
    simp
theorem val_back (v : Vl) (l : List UInt8) (hok : okV v) (hg : goodV v = true) : readF (valB v ++ l) 0 = (normV v, l, 0) := by
  obtain ⟨⟨k0, k1⟩, ⟨i0, i1⟩, hn⟩ := hok
  unfold goodV at hg
  simp only [Bool.and_eq_true, decide_eq_true_eq] at hg
  obtain ⟨⟨⟨⟨⟨⟨g0, g1⟩, g2⟩, g3⟩, g4⟩, g5⟩, g6⟩ := hg
  obtain ⟨k, i, b, s, n⟩ := v
  simp only at *
  have hw : wrap64 ((w64 k : Nat) : Int) = k := wrap_w64 k (by omega) (by omega)
  have hwi : wrap64 ((w64 i : Nat) : Int) = i := wrap_w64 i (by omega) (by omega)
  unfold valB normV
  simp only
  by_cases h1 : k = 1
  · subst h1
    have hb : b = false := by simpa using g4
    have hs : s = ⟨#[]⟩ := empty_of (by simpa using g5)
    have hn0 : n = 0 := by simpa using g6
    subst hb hs hn0
    rw [if_pos rfl, if_neg (by decide), List.append_assoc, readF_1 (step_int 1 _) hw (step_int i l), hwi]
  by_cases h2 : k = 2
  · subst h2
    have hi0 : i = 0 := by simpa using g3
    have hs : s = ⟨#[]⟩ := empty_of (by simpa using g5)
    have hn0 : n = 0 := by simpa using g6
    subst hi0 hs hn0
    rw [if_neg (by decide), if_pos rfl, if_neg (by decide), List.append_assoc, readF_2 (step_int 2 _) hw (step_bool b l)]
    cases b <;> rfl
  by_cases h3 : k = 3
  · subst h3
    have hi0 : i = 0 := by simpa using g3
    have hb : b = false := by simpa using g4
    have hn0 : n = 0 := by simpa using g6
    subst hi0 hb hn0
    have hsl : s.data.toList.length ≤ 32 := by
      have h3 : s.data.toList.length = s.size := Array.length_toList
      omega
    rw [if_neg (by decide), if_neg (by decide), if_pos rfl, if_neg (by decide), List.append_assoc, readF_3 (step_int 3 _) hw (bytes_32 s.data.toList l hsl), ← strB_of s]
  · have h4 : k = 4 := by omega
    subst h4
    have hi0 : i = 0 := by simpa using g3
    have hb : b = false := by simpa using g4
    have hs : s = ⟨#[]⟩ := empty_of (by simpa using g5)
    subst hi0 hb hs
    rw [if_neg (by decide), if_neg (by decide), if_neg (by decide), if_pos rfl, if_pos rfl, List.append_assoc, readF_4 (step_int 4 _) hw (step_num n hn l)]
theorem val_got (v : Vl) (l : List UInt8) (hok : okV v) (hg : goodV v = true) : getV (valB v ++ l) 0 = normV v ∧ getE (valB v ++ l) 0 = 0 ∧ (readF (valB v ++ l) 0).2.1 = l ∧ (readF (valB v ++ l) 0).2.2 = 0 :=
  get_ok (val_back v l hok hg) (by
    have h : (1 : Int) ≤ v.k := by
      unfold goodV at hg
      simp only [Bool.and_eq_true, decide_eq_true_eq] at hg
      exact hg.1.1.1.1.1.1
    show v.k ≠ 0
    omega)
end Go.Proofs.YtkhpgejammgolaaGreat

/- Layer 5: expressions as bytes by definition, there and back. -/
namespace Go.Proofs.YtkhpgejammgolaaGreat
open Go.RowKit
set_option linter.unusedVariables false
set_option linter.unusedSimpArgs false

/-- 5.3: the bytes of a small one -/
def putX : Nat → Ex → List UInt8
  | 0, _ => []
  | d + 1, e => be 8 (w64 e.op) ++ (be 4 e.kids.length ++ ((be 4 e.name.data.toList.length ++ e.name.data.toList) ++ (valB e.val ++ e.kids.flatMap (putX d))))
/-- a value, or the zero one: what it is, what is left, the error -/
def zeroF (rest : List UInt8) : Vl × List UInt8 × Int :=
  if wrap64 ((stepF 8 alInt rest 0).1 : Int) = 0 ∧ (stepF 8 alInt rest 0).2.2 = 0 then (vZero, (stepF 8 alInt rest 0).2.1, 0) else (getV rest 0, (readF rest 0).2.1, getE rest 0)
/-- so many kids -/
def getL (f : Int → List UInt8 → Except Int (Ex × Int × List UInt8)) : Nat → Int → List UInt8 → Except Int (List Ex × Int × List UInt8)
  | 0, n, r => .ok ([], n, r)
  | c + 1, n, r => match f n r with
    | .error e => .error e
    | .ok (k, n1, r1) => match getL f c n1 r1 with
      | .error e => .error e
      | .ok (ks, n2, r2) => .ok (k :: ks, n2, r2)
/-- 5.3: which expression bytes are, how many parts are left then, which bytes; H reads a part without its kids: its operation, how many kids, its name, its value, what is left -/
def getXH (H : List UInt8 → Except Int (Int × Nat × ByteArray × Vl × List UInt8)) : Nat → Int → List UInt8 → Except Int (Ex × Int × List UInt8)
  | 0, _, _ => .error 51
  | d + 1, n, rest =>
    if n < 1 then .error 51 else
    match H rest with
    | .error e => .error e
    | .ok (o, c, m, v, r4) => match getL (getXH H d) c (n - 1) r4 with
      | .error e => .error e
      | .ok (ks, n', r) => .ok (.mk o m v ks, n', r)
/-- a part without its kids -/
def headX (rest : List UInt8) : Except Int (Int × Nat × ByteArray × Vl × List UInt8) :=
  if (bytesF 16 (stepF 4 (alCount 3) (stepF 8 alInt rest 0).2.1 (stepF 8 alInt rest 0).2.2).2.1 (stepF 4 (alCount 3) (stepF 8 alInt rest 0).2.1 (stepF 8 alInt rest 0).2.2).2.2).2.2 ≠ 0
  then .error (bytesF 16 (stepF 4 (alCount 3) (stepF 8 alInt rest 0).2.1 (stepF 8 alInt rest 0).2.2).2.1 (stepF 4 (alCount 3) (stepF 8 alInt rest 0).2.1 (stepF 8 alInt rest 0).2.2).2.2).2.2
  else if (zeroF (bytesF 16 (stepF 4 (alCount 3) (stepF 8 alInt rest 0).2.1 (stepF 8 alInt rest 0).2.2).2.1 (stepF 4 (alCount 3) (stepF 8 alInt rest 0).2.1 (stepF 8 alInt rest 0).2.2).2.2).2.1).2.2 ≠ 0
  then .error (zeroF (bytesF 16 (stepF 4 (alCount 3) (stepF 8 alInt rest 0).2.1 (stepF 8 alInt rest 0).2.2).2.1 (stepF 4 (alCount 3) (stepF 8 alInt rest 0).2.1 (stepF 8 alInt rest 0).2.2).2.2).2.1).2.2
  else .ok (wrap64 ((stepF 8 alInt rest 0).1 : Int), (stepF 4 (alCount 3) (stepF 8 alInt rest 0).2.1 (stepF 8 alInt rest 0).2.2).1, strB (bytesF 16 (stepF 4 (alCount 3) (stepF 8 alInt rest 0).2.1 (stepF 8 alInt rest 0).2.2).2.1 (stepF 4 (alCount 3) (stepF 8 alInt rest 0).2.1 (stepF 8 alInt rest 0).2.2).2.2).1,
    (zeroF (bytesF 16 (stepF 4 (alCount 3) (stepF 8 alInt rest 0).2.1 (stepF 8 alInt rest 0).2.2).2.1 (stepF 4 (alCount 3) (stepF 8 alInt rest 0).2.1 (stepF 8 alInt rest 0).2.2).2.2).2.1).1,
    (zeroF (bytesF 16 (stepF 4 (alCount 3) (stepF 8 alInt rest 0).2.1 (stepF 8 alInt rest 0).2.2).2.1 (stepF 4 (alCount 3) (stepF 8 alInt rest 0).2.1 (stepF 8 alInt rest 0).2.2).2.2).2.1).2.1)
theorem headX_ok {rest r1 r2 r3 r4 m : List UInt8} {o c : Nat} {v : Vl} (h1 : stepF 8 alInt rest 0 = (o, r1, 0)) (h2 : stepF 4 (alCount 3) r1 0 = (c, r2, 0)) (h3 : bytesF 16 r2 0 = (m, r3, 0)) (h4 : zeroF r3 = (v, r4, 0)) : headX rest = .ok (wrap64 (o : Int), c, strB m, v, r4) := by
  unfold headX
  simp only [h1, h2, h3, h4]
  simp
theorem headX_no1 {rest r1 r2 r3 m : List UInt8} {o c : Nat} {e1 e2 e3 : Int} (h1 : stepF 8 alInt rest 0 = (o, r1, e1)) (h2 : stepF 4 (alCount 3) r1 e1 = (c, r2, e2)) (h3 : bytesF 16 r2 e2 = (m, r3, e3)) (h : e3 ≠ 0) : headX rest = .error e3 := by
  unfold headX
  simp only [h1, h2, h3]
  rw [if_pos h]
theorem headX_no2 {rest r1 r2 r3 r4 m : List UInt8} {o c : Nat} {e1 e2 e4 : Int} {v : Vl} (h1 : stepF 8 alInt rest 0 = (o, r1, e1)) (h2 : stepF 4 (alCount 3) r1 e1 = (c, r2, e2)) (h3 : bytesF 16 r2 e2 = (m, r3, 0)) (h4 : zeroF r3 = (v, r4, e4)) (h : e4 ≠ 0) : headX rest = .error e4 := by
  unfold headX
  simp only [h1, h2, h3, h4]
  rw [if_neg (by simp), if_pos h]
abbrev getX : Nat → Int → List UInt8 → Except Int (Ex × Int × List UInt8) := getXH headX

/-- what is read of what was put -/
def normX : Nat → Ex → Ex
  | 0, e => e
  | d + 1, e => .mk e.op e.name (normV e.val) (e.kids.map (normX d))
/-- of a form that can be read -/
def formX : Nat → Ex → Prop
  | 0, _ => False
  | d + 1, e => e.kids.length ≤ 3 ∧ e.name.data.toList.length ≤ 16 ∧ (goodV e.val = true ∨ e.val = vZero) ∧ okV e.val ∧ in64 e.op ∧ ∀ k ∈ e.kids, formX d k
/-- are two small ones the same -/
def sameL (f : Ex → Ex → Bool) : List Ex → List Ex → Bool
  | [], [] => true
  | a :: la, b :: lb => f a b && sameL f la lb
  | _, _ => false
def sameX : Nat → Ex → Ex → Bool
  | 0, _, _ => true
  | d + 1, a, b => a.op == b.op && (a.name.toList == b.name.toList) && sameV a.val b.val && sameL (sameX d) a.kids b.kids

theorem val_zero {v : Vl} (h : sameV v vZero = true) (hn : v.n < 18446744073709551616) : v = vZero := by
  unfold sameV at h
  simp only [Bool.and_eq_true, beq_iff_eq] at h
  obtain ⟨⟨⟨⟨h1, h2⟩, h3⟩, h4⟩, h5⟩ := h
  obtain ⟨k, i, b, s, n⟩ := v
  simp only at *
  have hs : s = ⟨#[]⟩ := empty_of (by rw [h4, empty_list]; rfl)
  have hn0 : n = 0 := by
    rw [numW_0] at h5
    unfold numW at h5
    split at h5
    · cases h5
    · exact h5
  rw [h1, h2, h3, hs, hn0]
theorem bytes_16 (l rest : List UInt8) (hl : l.length ≤ 16) : bytesF 16 (be 4 l.length ++ l ++ rest) 0 = (l, rest, 0) := by
  have hs : stepF 4 (alBytes 16 (be 4 l.length ++ l ++ rest)) (be 4 l.length ++ l ++ rest) 0 = (l.length, l ++ rest, 0) := by
    rw [List.append_assoc]
    refine stepF_be 4 _ _ _ (by omega) ?_
    have hc : ceilE (max 16 0) 11 (l.length : Int) = 0 := by unfold ceilE; rw [if_neg (by omega)]
    unfold alBytes roomE
    simp only [List.length_append, be_length]
    rw [hc, if_pos rfl, if_neg (by omega)]
  unfold bytesF
  rw [hs]
  by_cases h0 : l.length = 0
  · have : l = [] := List.eq_nil_of_length_eq_zero h0
    subst this
    rfl
  · rw [if_neg h0]
    simp
theorem step_three (n : Nat) (rest : List UInt8) (h : n ≤ 3) : stepF 4 (alCount 3) (be 4 n ++ rest) 0 = (n, rest, 0) :=
  stepF_be 4 _ _ _ (by omega) (by unfold alCount ceilE; rw [if_neg (by omega)])
theorem zero_back (v : Vl) (rest : List UInt8) (hok : okV v) (h : goodV v = true ∨ v = vZero) : zeroF (valB v ++ rest) = (normV v, rest, 0) := by
  rcases h with h | h
  · have hk : (1 : Int) ≤ v.k ∧ v.k ≤ 4 := by
      unfold goodV at h
      simp only [Bool.and_eq_true, decide_eq_true_eq] at h
      exact h.1.1.1.1.1
    obtain ⟨g1, g2, g3, -⟩ := val_got v rest hok h
    have hs : stepF 8 alInt (valB v ++ rest) 0 = (w64 v.k, (valB v ++ rest).drop 8, 0) := by
      unfold valB
      rw [List.append_assoc, step_int]
      have hl := be_length 8 (w64 v.k)
      rw [List.drop_append_of_le_length (by omega), List.drop_of_length_le (by omega), List.nil_append]
    unfold zeroF
    rw [hs, g1, g2, g3]
    simp only
    rw [wrap_w64 v.k (by omega) (by omega), if_neg (by omega)]
  · subst h
    have hs : stepF 8 alInt (valB vZero ++ rest) 0 = (w64 0, rest, 0) := by
      have e : valB vZero ++ rest = be 8 (w64 0) ++ rest := by unfold valB; simp
      rw [e]
      exact step_int 0 rest
    unfold zeroF
    rw [hs]
    simp only
    rw [wrap_w64 0 (by omega) (by omega), if_pos (by simp)]
    rfl
theorem normX_size : ∀ d e, sizeX d (normX d e) = sizeX d e
  | 0, e => rfl
  | d + 1, e => by
    show 1 + ((e.kids.map (normX d)).map (sizeX d)).sum = 1 + (e.kids.map (sizeX d)).sum
    rw [List.map_map]
    congr 2
    exact List.map_congr_left fun x _ => normX_size d x
theorem normX_deep : ∀ d e, deepX d e → deepX d (normX d e)
  | 0, e, h => h
  | d + 1, e, h => by
    intro k hk
    obtain ⟨x, hx, rfl⟩ := List.mem_map.1 (show k ∈ e.kids.map (normX d) from hk)
    exact normX_deep d x (h x hx)
theorem getL_back (H : List UInt8 → Except Int (Int × Nat × ByteArray × Vl × List UInt8)) (d : Nat) (h : ∀ (e : Ex) (n : Int) (rest : List UInt8), formX d e → sizeX d e ≤ n → getXH H d n (putX d e ++ rest) = .ok (normX d e, n - sizeX d e, rest)) :
    ∀ (ks : List Ex) (n : Int) (rest : List UInt8), (∀ k ∈ ks, formX d k) → ((ks.map (sizeX d)).sum : Nat) ≤ n → getL (getXH H d) ks.length n (ks.flatMap (putX d) ++ rest) = .ok (ks.map (normX d), n - ((ks.map (sizeX d)).sum : Nat), rest)
  | [], n, rest, _, _ => by simp [getL]
  | k :: ks, n, rest, hf, hn => by
    rw [List.map_cons, List.sum_cons] at hn
    rw [List.flatMap_cons, List.append_assoc, List.length_cons, getL, h k n _ (hf k (List.mem_cons_self ..)) (by omega)]
    dsimp only
    rw [getL_back H d h ks _ rest (fun x hx => hf x (List.mem_cons_of_mem _ hx)) (by omega)]
    dsimp only
    rw [List.map_cons, List.map_cons, List.sum_cons]
    congr 3
    omega
theorem getX_ok {H : List UInt8 → Except Int (Int × Nat × ByteArray × Vl × List UInt8)} {d c : Nat} {n n' o : Int} {rest r4 r : List UInt8} {m : ByteArray} {v : Vl} {ks : List Ex} (h0 : ¬ n < 1) (h1 : H rest = .ok (o, c, m, v, r4)) (h5 : getL (getXH H d) c (n - 1) r4 = .ok (ks, n', r)) :
    getXH H (d + 1) n rest = .ok (.mk o m v ks, n', r) := by
  rw [getXH, if_neg h0, h1]
  dsimp only
  rw [h5]
theorem sizeX_succ (d : Nat) (e : Ex) : ((sizeX (d + 1) e : Nat) : Int) = 1 + ((e.kids.map (sizeX d)).sum : Nat) := by unfold sizeX; omega
theorem putX_succ (d : Nat) (e : Ex) (rest : List UInt8) : putX (d + 1) e ++ rest = be 8 (w64 e.op) ++ (be 4 e.kids.length ++ (be 4 e.name.data.toList.length ++ e.name.data.toList ++ (valB e.val ++ (e.kids.flatMap (putX d) ++ rest)))) := by
  rw [putX]
  simp only [List.append_assoc]
theorem getX_back : ∀ (d : Nat) (e : Ex) (n : Int) (rest : List UInt8), formX d e → sizeX d e ≤ n → getX d n (putX d e ++ rest) = .ok (normX d e, n - sizeX d e, rest)
  | 0, e, n, rest, h, _ => False.elim h
  | d + 1, e, n, rest, h, hn => by
    obtain ⟨h1, h2, h3, h4, h5, h6⟩ := h
    have hs := sizeX_succ d e
    have hl := getL_back headX d (getX_back d) e.kids (n - 1) rest h6 (by omega)
    have hz := zero_back e.val (e.kids.flatMap (putX d) ++ rest) h4 h3
    have hb := bytes_16 e.name.data.toList (valB e.val ++ (e.kids.flatMap (putX d) ++ rest)) h2
    have hc := step_three e.kids.length (be 4 e.name.data.toList.length ++ e.name.data.toList ++ (valB e.val ++ (e.kids.flatMap (putX d) ++ rest))) h1
    have ho := step_int e.op (be 4 e.kids.length ++ (be 4 e.name.data.toList.length ++ e.name.data.toList ++ (valB e.val ++ (e.kids.flatMap (putX d) ++ rest))))
    have hh := headX_ok ho hc hb hz
    rw [wrap_w64 e.op h5.1 h5.2, ← strB_of e.name] at hh
    rw [putX_succ]
    refine (getX_ok (by omega) hh hl).trans ?_
    have e1 : n - 1 - (((e.kids.map (sizeX d)).sum : Nat) : Int) = n - sizeX (d + 1) e := by omega
    rw [e1]
    rfl
theorem sameL_norm (d : Nat) (h : ∀ e, sameX d e (normX d e) = true) : ∀ (ks : List Ex), sameL (sameX d) ks (ks.map (normX d)) = true
  | [] => rfl
  | k :: ks => by
    rw [List.map_cons, sameL, h k, sameL_norm d h ks]
    rfl
theorem sameX_norm : ∀ d e, sameX d e (normX d e) = true
  | 0, e => rfl
  | d + 1, e => by
    unfold sameX normX
    simp only [Ex.op, Ex.name, Ex.val, Ex.kids]
    rw [sameL_norm d (sameX_norm d), same_norm]
    simp
/-- what is checked, with names that may be, is of a form that can be read -/
theorem formX_of (fs : List Fd) (hf : ∀ f ∈ fs, f.name.data.toList.length ≤ 16) : ∀ d e k, okX d e → deepX d e → chkX d e fs = (k, 0) → formX d e
  | 0, e, k, _, hd, _ => hd
  | d + 1, e, k, hok, hd, h => by
    obtain ⟨h1, h2⟩ := chkX_ok h
    obtain ⟨f1, f2, f3⟩ := kindX_form h1
    have hk := kindX_kinds h1
    refine ⟨?_, ?_, ?_, hok.1, hok.2.1, fun x hx => formX_of fs hf d x _ (hok.2.2 x hx) (hd x hx) (pair_of (h2 x hx))⟩
    · have h3 : kidsN e.op ≤ 3 := by unfold kidsN; split <;> (try split) <;> (try split) <;> (try split) <;> omega
      omega
    · by_cases o : e.op = 2
      · rcases hk with ⟨o', -⟩ | ⟨-, g, -⟩ | hk
        · omega
        · have hname : ∀ (l : List Fd) (i : Nat), (∀ f ∈ l, f.name.data.toList.length ≤ 16) → 0 ≤ findX e.name l i → e.name.data.toList.length ≤ 16 := by
            intro l
            induction l with
            | nil => intro i _ hi; unfold findX at hi; omega
            | cons f l ih =>
              intro i hl hi
              unfold findX at hi
              split at hi
              · rename_i hb
                have hb2 : f.name.toList = e.name.toList := by simpa using hb
                have h5 := hl f (List.mem_cons_self ..)
                have e1 : f.name.data.toList = f.name.toList := by
                  have h := strB_list f.name.data.toList
                  rw [← strB_of f.name] at h
                  exact h.symm
                have e2 : e.name.data.toList = e.name.toList := by
                  have h := strB_list e.name.data.toList
                  rw [← strB_of e.name] at h
                  exact h.symm
                rw [e2, ← hb2, ← e1]
                exact h5
              · exact ih (i + 1) (fun x hx => hl x (List.mem_cons_of_mem _ hx)) hi
          exact hname fs 0 hf g
        · exfalso
          rcases hk with ⟨o', -⟩ | ⟨o', -⟩ | ⟨o', -⟩ | ⟨o', -⟩ | ⟨o', -⟩ | ⟨o', -⟩ | ⟨o', -⟩ | ⟨o', -⟩
          all_goals first | omega | (have := (opsB_iff e.op).1 o'; omega)
      · have h5 := f2 o
        have e2 : e.name.data.toList = e.name.toList := by
          have h := strB_list e.name.data.toList
          rw [← strB_of e.name] at h
          exact h.symm
        rw [e2, h5]
        simp
    · by_cases o : e.op = 1
      · rcases hk with ⟨-, g, -⟩ | ⟨o', -⟩ | hk
        · exact Or.inl g
        · omega
        · exfalso
          rcases hk with ⟨o', -⟩ | ⟨o', -⟩ | ⟨o', -⟩ | ⟨o', -⟩ | ⟨o', -⟩ | ⟨o', -⟩ | ⟨o', -⟩ | ⟨o', -⟩
          all_goals first | omega | (have := (opsB_iff e.op).1 o'; omega)
      · exact Or.inr (val_zero (f3 o) hok.1.2.2)
end Go.Proofs.YtkhpgejammgolaaGreat

/- Layer 5: expressions as bytes, by the program. -/
namespace Go.Proofs.YtkhpgejammgolaaGreat
open Go.RowKit
set_option linter.unusedVariables false
set_option linter.unusedSimpArgs false
set_option maxRecDepth 20000

/-- short texts, few kids -/
def txtX : Nat → Ex → Prop
  | 0, _ => True
  | d + 1, e => e.name.data.toList.length ≤ 1000 ∧ e.val.s.data.toList.length ≤ 1000 ∧ e.kids.length ≤ 1000 ∧ ∀ k ∈ e.kids, txtX d k
theorem valB_le (v : Vl) : (valB v).length ≤ 20 + v.s.data.toList.length := by
  unfold valB
  rw [List.length_append, be_length]
  split
  · rw [be_length]; omega
  split
  · rw [be_length]; omega
  split
  · rw [List.length_append, be_length]; omega
  split
  · rw [be_length]; omega
  · rw [List.length_nil]; omega
theorem flat_le (d : Nat) (h : ∀ e, txtX d e → (putX d e).length ≤ 2100 * sizeX d e) : ∀ ks : List Ex, (∀ k ∈ ks, txtX d k) → (ks.flatMap (putX d)).length ≤ 2100 * (ks.map (sizeX d)).sum
  | [], _ => Nat.zero_le _
  | k :: ks, hk => by
    rw [List.flatMap_cons, List.length_append, List.map_cons, List.sum_cons, Nat.mul_add]
    exact Nat.add_le_add (h k (hk k (List.mem_cons_self ..))) (flat_le d h ks fun x hx => hk x (List.mem_cons_of_mem _ hx))
theorem putX_le : ∀ d e, txtX d e → (putX d e).length ≤ 2100 * sizeX d e
  | 0, e, _ => Nat.zero_le _
  | d + 1, e, h => by
    obtain ⟨h1, h2, -, h4⟩ := h
    have hf := flat_le d (putX_le d) e.kids h4
    have hv := valB_le e.val
    unfold putX sizeX
    simp only [List.length_append, be_length]
    rw [Nat.mul_add]
    omega
theorem deep_size : ∀ d e, deepX d e → 1 ≤ sizeX d e
  | 0, e, h => False.elim h
  | d + 1, e, _ => by unfold sizeX; omega
theorem kids_size (d : Nat) : ∀ ks : List Ex, (∀ k ∈ ks, deepX d k) → ks.length ≤ (ks.map (sizeX d)).sum
  | [], _ => Nat.le_refl _
  | k :: ks, h => by
    have h1 := deep_size d k (h k (List.mem_cons_self ..))
    have h2 := kids_size d ks fun x hx => h x (List.mem_cons_of_mem _ hx)
    rw [List.length_cons, List.map_cons, List.sum_cons]
    omega
theorem mem_size (d : Nat) : ∀ (ks : List Ex) (k : Ex), k ∈ ks → sizeX d k ≤ (ks.map (sizeX d)).sum
  | k :: ks, x, h => by
    rw [List.map_cons, List.sum_cons]
    rcases List.mem_cons.1 h with rfl | h
    · omega
    · have := mem_size d ks x h; omega
/-- all texts are short -/
def shX : Nat → Ex → Prop
  | 0, _ => True
  | d + 1, e => e.name.data.toList.length ≤ 1000 ∧ e.val.s.data.toList.length ≤ 1000 ∧ ∀ k ∈ e.kids, shX d k
theorem txtX_of : ∀ d e, deepX d e → sizeX d e ≤ 1000 → shX d e → txtX d e
  | 0, _, _, _, _ => trivial
  | d + 1, e, hd, hs, h => by
    have h1 := kids_size d e.kids hd
    have hs' : 1 + (e.kids.map (sizeX d)).sum ≤ 1000 := hs
    exact ⟨h.1, h.2.1, by omega, fun k hk => txtX_of d k (hd k hk) (by have := mem_size d e.kids k hk; omega) (h.2.2 k hk)⟩
theorem bel2 {a b c : World} (h : Below a.heap.size a b) (k : Below b.heap.size b c) : Below a.heap.size a c := h.trans (k.mono h.size)
theorem capC_of {n : Nat} (h : n ≤ 1000) : (capC (n : Int)).toNat = n := by unfold capC; omega
theorem own_belowX {w w' : World} {base e s n : Nat} {v : Value} {xs : List Value} (h : w.ownsRow base e s v n xs) (hb : Below w.heap.size w w') : w'.ownsRow base e s v n xs := by
  obtain ⟨h1, h2⟩ := h
  refine ⟨h1, ?_⟩
  rcases h2 with h2 | ⟨g, cap, cur, e1, e2, e3, e4⟩
  · exact .inl h2
  · exact .inr ⟨g, cap, cur, e1, e2, (hb.block g (Array.getElem?_eq_some_iff.1 e3).1).trans e3, e4⟩
theorem own_len {w : World} {B : Nat} {v : Value} {n m : Nat} {l : List UInt8} (h : w.ownsRow B 5 1 v n (l.map bc)) (hm : m = l.length) : w.ownsRow B 5 1 v m (l.map bc) := by
  have h1 := h.1
  simp at h1
  subst hm
  rw [h1]; exact h
theorem own_nilrow {w w' : World} {B : Nat} {v : Value} {n : Nat} {l : List UInt8} (h : w.ownsRow B 5 1 v n (l.map bc)) : Bs w v l := Rd.of_own h

/-- what is put behind an own row -/
def PutsO (B : Nat) (l : List UInt8) (w : World) (e : Ending) (w' : World) : Prop := ∃ v', e = .returned v' ∧ w'.ownsRow B 5 1 v' l.length (l.map bc) ∧ Below B w w'
theorem take_put (d : Nat) (ks : List Ex) (k : Nat) (hk : k < ks.length) : (ks.take (k + 1)).flatMap (putX d) = (ks.take k).flatMap (putX d) ++ putX d ks[k] := by
  rw [List.take_succ_eq_append_getElem hk, List.flatMap_append]
  simp
theorem take_put_le (d : Nat) (ks : List Ex) (k : Nat) : ((ks.take k).flatMap (putX d)).length ≤ (ks.flatMap (putX d)).length := by
  have h : ks.flatMap (putX d) = (ks.take k).flatMap (putX d) ++ (ks.drop k).flatMap (putX d) := by rw [← List.flatMap_append, List.take_append_drop]
  rw [h, List.length_append]; omega
theorem text_bs (s : ByteArray) (h : s.data.toList.length ≤ 1000) (W : World) : Bs (Lib.bytesWorld W 5 s) (.slice (some ⟨W.heap.size, 0, none⟩) s.size (grownCap W s.size 0 5)) s.data.toList := by
  have h := bytesWorld_bs W s.data.toList (by unfold maxLen; omega) _ rfl
  rwa [← strB_of s] at h

set_option maxHeartbeats 4000000 in
theorem appendParts_any (w0 : World) (B : Nat) (hB0 : w0.heap.size ≤ B) : ∀ (D d : Nat) (e : Ex) (A : Option Addr) (c : Nat) (v : Value) (l : List UInt8) (w : World), ExK w0 D A c e → deepX d e → txtX d e → okX d e → Below w0.heap.size w0 w → B ≤ w.heap.size → w.ownsRow B 5 1 v l.length (l.map bc) → l.length + (putX d e).length ≤ 60000 →
    Calls Tryz.prog 48 #[v, agX e.op A e.kids.length c e.name e.val] w (PutsO B (l ++ putX d e) w)
  | 0, _, _, _, _, _, _, _, h, _, _, _, _, _, _, _ => False.elim h
  | D + 1, 0, _, _, _, _, _, _, _, h, _, _, _, _, _, _ => False.elim h
  | D + 1, d + 1, e, A, c, v, l, w, hx, hdp, htx, hok, hb, hB, hown, hlen => by
    obtain ⟨i0, hi, hz0, hz1, hz2⟩ := info_parts u8info
    obtain ⟨h2, h3, h4, h5⟩ := hx
    have ih := appendParts_any w0 B hB0 D
    obtain ⟨t1, t2, t3, t4⟩ := htx
    obtain ⟨⟨-, -, okn⟩, -, okk⟩ := hok
    replace hdp : ∀ k ∈ e.kids, deepX d k := hdp
    have hput : putX (d + 1) e = (be 8 (w64 e.op) ++ be 4 e.kids.length ++ be 4 e.name.data.toList.length ++ e.name.data.toList ++ valB e.val) ++ e.kids.flatMap (putX d) := by
      unfold putX
      simp only [List.append_assoc]
    rw [hput] at hlen ⊢
    clear hput
    generalize e.kids = ks at *
    generalize e.op = eop at *
    generalize e.name = enm at *
    generalize e.val = ev at *
    have hvl := valB_le ev
    have q1 : ∀ W, Calls Tryz.prog 100 #[.slice none 0 0, .int .i64 eop] W (Puts W (be 8 (w64 eop))) := fun W => PutInt_any _ [] eop W (Bs.nil W) (by simp)
    have q2 : ∀ W u, Bs W u (be 8 (w64 eop)) → Calls Tryz.prog 99 #[u, .int .i64 ks.length] W (Puts W (be 8 (w64 eop) ++ be 4 ks.length)) := fun W u hu => by
      have h := PutCount_any u _ ks.length W hu (by rw [be_length]; omega) (by omega) (by omega)
      rwa [capC_of t3] at h
    have hcv := fun (W : World) => Lib.run_convert_string_bytes (P := Tryz.prog) W 9 28 5 enm Tryz.underlying9 Tryz.underlying28 Tryz.underlying5
    have q3 : ∀ W z u, Bs W z (be 8 (w64 eop) ++ be 4 ks.length) → Bs W u enm.data.toList → Calls Tryz.prog 102 #[z, u] W (Puts W (be 8 (w64 eop) ++ be 4 ks.length ++ be 4 enm.data.toList.length ++ enm.data.toList)) := fun W z u hz hu => PutBytes_any z u _ _ W hz hu (by rw [List.length_append, be_length, be_length]; omega) (by omega)
    have q4 : ∀ W z, Bs W z (be 8 (w64 eop) ++ be 4 ks.length ++ be 4 enm.data.toList.length ++ enm.data.toList) → Calls Tryz.prog 101 #[z, agV ev] W (PutsV W (be 8 (w64 eop) ++ be 4 ks.length ++ be 4 enm.data.toList.length ++ enm.data.toList ++ valB ev)) := fun W z hz => Put_val ev z _ W hz (by simp only [List.length_append, be_length]; omega) (by omega) okn
    have hn : (be 8 (w64 eop) ++ be 4 ks.length ++ be 4 enm.data.toList.length ++ enm.data.toList ++ valB ev).length ≤ 3000 := by simp only [List.length_append, be_length]; omega
    have HBW := Lib.hid (text_bs enm t1)
    have Q1 := Lib.hid q1
    have Q2 := Lib.hid q2
    have Q3 := Lib.hid q3
    have Q4 := Lib.hid q4
    generalize be 8 (w64 eop) ++ be 4 ks.length ++ be 4 enm.data.toList.length ++ enm.data.toList ++ valB ev = hdl at *
    generalize be 8 (w64 eop) ++ be 4 ks.length ++ be 4 enm.data.toList.length ++ enm.data.toList = l3 at *
    generalize be 8 (w64 eop) ++ be 4 ks.length = l2 at *
    generalize be 8 (w64 eop) = l1 at *
    have HIH := Lib.hid (fun (j : Nat) (hj : j < ks.length) A' c' v l W (hx : ExK w0 D A' c' ks[j]) (hB' : Below w0.heap.size w0 W) (hs : B ≤ W.heap.size) (ho : W.ownsRow B 5 1 v l.length (l.map bc)) (hl : l.length + (putX d (ks[j]'hj)).length ≤ 60000) => ih d ks[j] A' c' v l W hx (hdp _ (List.getElem_mem hj)) (t4 _ (List.getElem_mem hj)) (okk _ (List.getElem_mem hj)) hB' hs ho hl)
    have H5 := Lib.hid h5
    have HTP := Lib.hid (take_put d ks)
    have HTL := Lib.hid (take_put_le d ks)
    have hkid := Lib.hid (Kid_new w eop A ks.length c enm ev)
    have hk3 : ks.length ≤ 9223372036854775807 := by omega
    clear ih h5 h2 h3 h4 q1 q2 q3 q4 t1 t2 t3 t4 okn okk hdp hvl
    have HW0 := Lib.hid (alloc1 w (bxX eop A ks.length c enm ev))
    have HVL := Lib.hid (fun k hk => hown.lt k hk)
    have HV := Lib.hid (own_belowX hown (alloc1 w (bxX eop A ks.length c enm ev)))
    have HLN := Lib.hid hlen
    have HN := Lib.hid hn
    have HB := Lib.hid hb
    have HBB := Lib.hid hB
    have HB0 := Lib.hid hB0
    clear hown hlen hn hb hB hB0
    go_enter Tryz.func48, Tryz.ntmps48
    go_upto_region 1 with fail
    have hsz : w.heap.size < (w.alloc (bxX eop A ks.length c enm ev)).heap.size := by simp
    generalize w.alloc (bxX eop A ks.length c enm ev) = wk at *
    have hall : ∀ W, Below wk.heap.size wk W → CellsX W w.heap.size eop A ks.length c enm ev := fun W h => hkid.out.below h
    have HALL := Lib.hid hall
    clear hall
    have hk1 : ∀ W W', (Below wk.heap.size wk W ∧ W.cell? ⟨w.heap.size, 0, none⟩ = some (.int .i64 eop) ∧ W.cell? ⟨w.heap.size, 1, none⟩ = some (.slice A ks.length c)) → Below W.heap.size W W' → (Below wk.heap.size wk W' ∧ W'.cell? ⟨w.heap.size, 0, none⟩ = some (.int .i64 eop) ∧ W'.cell? ⟨w.heap.size, 1, none⟩ = some (.slice A ks.length c)) :=
      fun W W' h hb => ⟨bel2 h.1 hb, (HALL.out W' (bel2 h.1 hb)).1, (HALL.out W' (bel2 h.1 hb)).2.1⟩
    have HK1 := Lib.hid hk1
    have hS1 : Below wk.heap.size wk wk.drew ∧ wk.drew.cell? ⟨w.heap.size, 0, none⟩ = some (.int .i64 eop) ∧ wk.drew.cell? ⟨w.heap.size, 1, none⟩ = some (.slice A ks.length c) := ⟨(Below.refl _ _).drew, (HALL.out _ (Below.refl _ _).drew).1, (HALL.out _ (Below.refl _ _).drew).2.1⟩
    have HS1 := Lib.hid hS1
    clear hk1 hS1
    go_cut [5] from 8 to 14 (fun s5 wx => ∃ v5, s5 = v5 ∧ Bs wx v5 l2 ∧ Below wk.heap.size wk wx)
    case first =>
      go_region_held3 (fun W => Below wk.heap.size wk W ∧ W.cell? ⟨w.heap.size, 0, none⟩ = some (.int .i64 eop) ∧ W.cell? ⟨w.heap.size, 1, none⟩ = some (.slice A ks.length c)) (first | exact HS1.out | exact HK1.out _ _ (by assumption) hbA | exact HK1.out _ _ (by assumption) hbB) (first
        | (go_at_call 100; refine (Q1.out _).mono ?_; rintro e wA ⟨v1, rfl, ho1, hbA⟩)
        | (go_at_call 99; refine (Q2.out _ _ (Rd.of_own ho1)).mono ?_; rintro e wB ⟨v2, rfl, ho2, hbB⟩))
      go_wp2_with fail
      go_meet
      exact ⟨_, rfl, Rd.of_own ho2, bel2 (bel2 (Below.refl _ _).drew hbA) hbB⟩
    case rest =>
    obtain ⟨v5, rfl, hv5, hb5⟩ := hcut
    have HV5 := Lib.hid hv5
    have hb6 := bel2 HW0.out hb5
    have hk2 : ∀ W W', (Below wc.heap.size wc W ∧ W.cell? ⟨w.heap.size, 2, none⟩ = some (.string enm) ∧ W.cell? ⟨w.heap.size, 3, none⟩ = some (.int .i64 ev.k) ∧ W.cell? ⟨w.heap.size, 4, none⟩ = some (.int .i64 ev.i) ∧ W.cell? ⟨w.heap.size, 5, none⟩ = some (.bool ev.b) ∧ W.cell? ⟨w.heap.size, 6, none⟩ = some (.string ev.s) ∧ W.cell? ⟨w.heap.size, 7, none⟩ = some (.float .f64 ev.n)) → Below W.heap.size W W' → (Below wc.heap.size wc W' ∧ W'.cell? ⟨w.heap.size, 2, none⟩ = some (.string enm) ∧ W'.cell? ⟨w.heap.size, 3, none⟩ = some (.int .i64 ev.k) ∧ W'.cell? ⟨w.heap.size, 4, none⟩ = some (.int .i64 ev.i) ∧ W'.cell? ⟨w.heap.size, 5, none⟩ = some (.bool ev.b) ∧ W'.cell? ⟨w.heap.size, 6, none⟩ = some (.string ev.s) ∧ W'.cell? ⟨w.heap.size, 7, none⟩ = some (.float .f64 ev.n)) :=
      fun W W' h hb => ⟨bel2 h.1 hb, (HALL.out W' (bel2 hb5 (bel2 h.1 hb))).2.2⟩
    have HK2 := Lib.hid hk2
    have hS2 : Below wc.heap.size wc wc.drew ∧ wc.drew.cell? ⟨w.heap.size, 2, none⟩ = some (.string enm) ∧ wc.drew.cell? ⟨w.heap.size, 3, none⟩ = some (.int .i64 ev.k) ∧ wc.drew.cell? ⟨w.heap.size, 4, none⟩ = some (.int .i64 ev.i) ∧ wc.drew.cell? ⟨w.heap.size, 5, none⟩ = some (.bool ev.b) ∧ wc.drew.cell? ⟨w.heap.size, 6, none⟩ = some (.string ev.s) ∧ wc.drew.cell? ⟨w.heap.size, 7, none⟩ = some (.float .f64 ev.n) := ⟨(Below.refl _ _).drew, (HALL.out _ (bel2 hb5 (Below.refl _ _).drew)).2.2⟩
    have HS2 := Lib.hid hS2
    have HB5 := Lib.hid hb5
    have HB6 := Lib.hid hb6
    clear hk2 hS2 hb5 hb6 hv5
    go_upto_region 2 with fail
    go_cut [5] from 15 to 22 (fun s5 wx => ∃ v6, s5 = v6 ∧ Bs wx v6 hdl ∧ Below wc.heap.size wc wx)
    case first =>
      refine wp_region_held_drew (S := (fun W => Below wc.heap.size wc W ∧ W.cell? ⟨w.heap.size, 2, none⟩ = some (.string enm) ∧ W.cell? ⟨w.heap.size, 3, none⟩ = some (.int .i64 ev.k) ∧ W.cell? ⟨w.heap.size, 4, none⟩ = some (.int .i64 ev.i) ∧ W.cell? ⟨w.heap.size, 5, none⟩ = some (.bool ev.b) ∧ W.cell? ⟨w.heap.size, 6, none⟩ = some (.string ev.s) ∧ W.cell? ⟨w.heap.size, 7, none⟩ = some (.float .f64 ev.n))) (by kernel_rfl) (HS2.out) (fun hHeld => ?_)
      refine wpAnyH_take (i := 0) (oi := ?oi1) (v := ?v1) ?hi1 (by kernel_rfl) (by kernel_rfl) (by kernel_rfl) ?hQ1 (Or.inl ⟨?hw1, ?hy1⟩) (by assumption) ?rest1
      case hi1 => (simp only [List.getElem?_toArray, List.getElem?_cons_succ, List.getElem?_cons_zero]; rfl)
      case hQ1 => exact fun _ _ _ h => h
      case hw1 => rfl
      case hy1 => (intro w hSw; (try dsimp only at hSw); go_simp; try with_reducible rfl)
      (try simp only [Act.put, List.setIfInBounds_toArray, List.set_cons_zero, List.set_cons_succ])
      refine wpAnyH_take (i := 1) (oi := ?oi2) (v := ?v2) ?hi2 (by kernel_rfl) (by kernel_rfl) (by kernel_rfl) ?hQ2 (Or.inl ⟨?hw2, ?hy2⟩) (by assumption) ?rest2
      case hi2 => (simp only [List.getElem?_toArray, List.getElem?_cons_succ, List.getElem?_cons_zero]; rfl)
      case hQ2 => exact fun _ _ _ h => h
      case hw2 => rfl
      case hy2 => (intro w hSw; (try dsimp only at hSw); go_simp; try with_reducible rfl)
      (try simp only [Act.put, List.setIfInBounds_toArray, List.set_cons_zero, List.set_cons_succ])
      refine wpAnyH_take (i := 2) (oi := ?oi3) (v := ?v3) ?hi3 (by kernel_rfl) (by kernel_rfl) (by kernel_rfl) ?hQ3 (Or.inl ⟨?hw3, ?hy3⟩) (by assumption) ?rest3
      case hi3 => (simp only [List.getElem?_toArray, List.getElem?_cons_succ, List.getElem?_cons_zero]; rfl)
      case hQ3 => exact fun _ _ _ h => h
      case hw3 => rfl
      case hy3 => (intro w hSw; (try dsimp only at hSw); go_simp; try with_reducible rfl)
      (try simp only [Act.put, List.setIfInBounds_toArray, List.set_cons_zero, List.set_cons_succ])
      refine wpAnyH_take (i := 5) (oi := ?oi4) (v := ?v4) ?hi4 (by kernel_rfl) (by kernel_rfl) (by kernel_rfl) ?hQ4 (Or.inl ⟨?hw4, ?hy4⟩) (by assumption) ?rest4
      case hi4 => (simp only [List.getElem?_toArray, List.getElem?_cons_succ, List.getElem?_cons_zero]; rfl)
      case hQ4 => exact fun _ _ _ h => h
      case hw4 => rfl
      case hy4 => (intro w hSw; (try dsimp only at hSw); go_simp; try with_reducible rfl)
      (try simp only [Act.put, List.setIfInBounds_toArray, List.set_cons_zero, List.set_cons_succ])
      refine wpAnyH_take (i := 6) (oi := ?oi5) (v := ?v5) ?hi5 (by kernel_rfl) (by kernel_rfl) (by kernel_rfl) ?hQ5 (Or.inl ⟨?hw5, ?hy5⟩) (by assumption) ?rest5
      case hi5 => (simp only [List.getElem?_toArray, List.getElem?_cons_succ, List.getElem?_cons_zero]; rfl)
      case hQ5 => exact fun _ _ _ h => h
      case hw5 => rfl
      case hy5 => (intro w hSw; (try dsimp only at hSw); go_simp; try with_reducible rfl)
      (try simp only [Act.put, List.setIfInBounds_toArray, List.set_cons_zero, List.set_cons_succ])
      refine wpAnyH_ready (rs := [3]) (by kernel_rfl) (by simp) ?_
      refine AllReadyH.cons (o := ?o6) ?ho6 (fun K hK => ?st6) AllReadyH.nil
      case ho6 => (simp only [List.getElem?_toArray, List.getElem?_cons_succ, List.getElem?_cons_zero]; rfl)
      go_simp
      refine hK.out _ _ ?_ (fun hHeld => ?_)
      · (try dsimp only); exact HK2.out _ _ hHeld (bytesWorld_below _ _ _)
      clear hK K
      (try simp only [Act.put, List.setIfInBounds_toArray, List.set_cons_zero, List.set_cons_succ])
      refine wpAnyH_ready (rs := [4]) (by kernel_rfl) (by simp) ?_
      refine AllReadyH.cons (o := ?o7) ?ho7 (fun K hK => ?st7) AllReadyH.nil
      case ho7 => (simp only [List.getElem?_toArray, List.getElem?_cons_succ, List.getElem?_cons_zero]; rfl)
      go_simp
      go_at_call 102
      refine (Q3.out _ _ _ (Rd.below HV5.out (bel2 (Below.refl _ _).drew (bytesWorld_below _ _ _)) (Nat.le_refl _)) (HBW.out _)).mono ?_
      rintro e wC ⟨v3, rfl, ho3, hbC⟩
      refine hK.out _ _ ?_ (fun hHeld => ?_)
      · (try dsimp only); exact HK2.out _ _ hHeld hbC
      clear hK K
      (try simp only [Act.put, List.setIfInBounds_toArray, List.set_cons_zero, List.set_cons_succ])
      refine wpAnyH_ready (rs := [7]) (by kernel_rfl) (by simp) ?_
      refine AllReadyH.cons (o := ?o8) ?ho8 (fun K hK => ?st8) AllReadyH.nil
      case ho8 => (simp only [List.getElem?_toArray, List.getElem?_cons_succ, List.getElem?_cons_zero]; rfl)
      go_simp
      go_at_call 101
      refine (Q4.out _ _ (Rd.of_own ho3)).mono ?_
      rintro e wD ⟨v4, B4, rfl, -, ho4, hbD⟩
      refine hK.out _ _ ?_ (fun hHeld => ?_)
      · (try dsimp only); exact HK2.out _ _ hHeld hbD
      clear hK K
      (try simp only [Act.put, List.setIfInBounds_toArray, List.set_cons_zero, List.set_cons_succ])
      refine wpAnyH_take (i := 8) (oi := ?oi9) (v := ?v9) ?hi9 (by kernel_rfl) (by kernel_rfl) (by kernel_rfl) ?hQ9 (Or.inl ⟨?hw9, ?hy9⟩) (by assumption) ?rest9
      case hi9 => (simp only [List.getElem?_toArray, List.getElem?_cons_succ, List.getElem?_cons_zero]; rfl)
      case hQ9 => exact fun _ _ _ h => h
      case hw9 => rfl
      case hy9 => (intro w hSw; (try dsimp only at hSw); go_simp; try with_reducible rfl)
      (try simp only [Act.put, List.setIfInBounds_toArray, List.set_cons_zero, List.set_cons_succ])
      refine wpAnyH_done (by kernel_rfl) ?_ _
      go_wp2_with fail
      go_meet
      exact ⟨_, rfl, Rd.of_own ho4, bel2 (bel2 (bel2 (Below.refl _ _).drew (bytesWorld_below _ _ _)) hbC) hbD⟩
    case rest =>
    obtain ⟨v6, rfl, hv6, hb7⟩ := hcut
    clear HK2 HS2 HK1 HS1 HV5
    have HV6 := Lib.hid hv6
    have HB7 := Lib.hid (bel2 HB5.out hb7)
    have HB8 := Lib.hid (bel2 HB6.out hb7)
    clear hv6 hb7
    rename_i wd
    obtain ⟨k0, k1, k2, k3, k4, k5, k6, k7⟩ := HALL.out _ HB7.out
    go_wp2_with (at_builtin; refine wpList_append_rd _ rfl _ _ 28 rfl B 5 i0 (.int .u8 0) 1 Tryz.underlying28 hi hz0 hz1 hz2 rfl _ _ _ rfl (own_belowX HV.out HB7.out) _ _ rfl HV6.out (bc_one hdl) (by have := HLN.out; simp only [List.length_map, List.length_append] at this ⊢; unfold maxLen; omega) (by have := HLN.out; simp only [List.length_map, List.length_append] at this ⊢; omega) (by have h1 := HBB.out; have h2 := HB8.out.size; omega) ?_; intro v7 w7 hown7 hgr70; have hgr7 : wc.grownBy w7 v.ownBlock := hgr70; clear hgr70; have hwl := World.block_lt_of_cell? wc _ k1; have hc7 := (World.cell?_of_block (a := ⟨w.heap.size, 1, none⟩) (hgr7.block w.heap.size hwl (fun e => absurd (HVL.out _ e.symm).2 (Nat.lt_irrefl _)))).trans k1; clear k0 k1 k2 k3 k4 k5 k6 k7; have HB9 := Lib.hid ((HB8.out.mono HBB.out).grown hgr7 (Nat.le_trans HBB.out HB8.out.size) (fun k hk => (HVL.out k hk).1)); rw [← List.map_append] at hown7; have HO7 := Lib.hid (own_len hown7 rfl); clear hown7 hgr7 hwl)
    go_loopw [0, 29] (fun v i wr => ∃ k : Nat, k ≤ ks.length ∧ i = .int .i64 k ∧ wr.ownsRow B 5 1 v (l ++ hdl ++ (ks.take k).flatMap (putX d)).length ((l ++ hdl ++ (ks.take k).flatMap (putX d)).map bc) ∧ Below B w wr) (fun _ i _ => ks.length - (intOf i).toNat)
    case atStart => exact ⟨0, Nat.zero_le _, rfl, by rw [List.take_zero, List.flatMap_nil, List.append_nil]; exact HO7.out, HB9.out⟩
    case round =>
      obtain ⟨k, hk, rfl, ho, hbr⟩ := hrel
      have HO := Lib.hid ho
      have HBR := Lib.hid hbr
      by_cases hlt : k < ks.length
      · obtain ⟨ad, A', c', rfl, hbl, hkid2, hsub⟩ := H5.out k hlt
        have hB : Below w0.heap.size w0 wr := HB.out.trans (hbr.mono HB0.out)
        obtain ⟨q0, q1, q2, q3, q4, q5, q6, q7⟩ := hkid2.below hB (by rw [block_add]; exact hbl)
        have hcall := fun o v l ho hl => HIH.out k hlt A' c' v l (wr.alloc o) hsub (hB.trans (((Below.refl _ _).alloc (Nat.le_refl _) o).mono hB.size)) (by have := HBB.out; have := hbr.size; simp; omega) ho hl
        have hln : (l ++ hdl ++ (ks.take k).flatMap (putX d)).length + (putX d ks[k]).length ≤ 60000 := by
          have h1 := HTL.out (k + 1)
          rw [HTP.out k hlt, List.length_append] at h1
          have h2 := HLN.out
          simp only [List.length_append] at h2 ⊢
          omega
        have HLL := Lib.hid hln
        have hltI : (k : Int) < (ks.length : Int) := by omega
        have HTK := Lib.hid (HTP.out k hlt)
        generalize putX d ks[k] = pk at hcall HLL HTK
        generalize ks[k].op = ko at q0 hcall
        generalize ks[k].name = kn at q2 hcall
        generalize ks[k].val = ky at q3 q4 q5 q6 q7 hcall
        generalize ks[k].kids.length = kl at q1 hcall
        have HC := Lib.hid hcall
        have hsf := fun (w : World) (a : Addr) (m : Mode) (b : Nat) => run_store Tryz.prog w a (.float .f64 b) m rfl
        clear hcall hkid2 hsub hB hln ho hbr hc7
        go_wp2_with (go_at_call 48; refine (HC.out _ _ _ (HO.out.alloc _) HLL.out).mono ?_; rintro e w2 ⟨v2, rfl, ho2, hb2⟩)
        go_roundw
        case rel => exact ⟨k + 1, by omega, by go_num, by rw [HTK.out, ← List.append_assoc]; exact ho2, (HBR.out.alloc (by have := HBB.out; have := HBR.out.size; omega) _).trans hb2⟩
        case measure => simp [intOf]; omega
      · obtain rfl : k = ks.length := by omega
        clear ho hbr hc7
        go_wp2
        go_ret
        exact ⟨_, rfl, by have h := HO.out; rw [List.take_length] at h; rw [← List.append_assoc]; exact h, HBR.out⟩
/-- a clone's row is owned -/
theorem Clone_puts (v : Value) (l : List UInt8) (w : World) (hv : Bs w v l) (hl : l.length ≤ 140737488355320) : Calls Tryz.prog 43 #[v] w (Puts w l) := by
  obtain ⟨i0, hi, hz0, hz1, hz2⟩ := info_parts u8info
  obtain ⟨A, c, rfl, hc, hmx, hn, -⟩ := hv.open
  rcases A with _ | ad
  · have hc0 := hn rfl
    subst hc0
    have hl0 : l = [] := List.eq_nil_of_length_eq_zero (by omega)
    subst hl0
    clear hn hv
    have he := fun (w : World) => Lib.run_eql_slice_nil (P := Tryz.prog) w 28 5 none 0 0 0 0 Tryz.underlying28
    simp only [List.length_nil]
    go_enter Tryz.func43, Tryz.ntmps43
    go_wp2
    go_ret
    exact ⟨_, rfl, World.ownsRow_nil _ _ _ _, Below.refl _ _⟩
  · clear hn
    have hv' : Rd w (.slice (some ad) l.length c) (l.map bc) := hv
    have HV := Lib.hid hv'
    clear hv hv'
    have he := fun (w : World) => Lib.run_eql_slice_nil (P := Tryz.prog) w 28 5 (some ad) l.length c 0 0 Tryz.underlying28
    go_enter Tryz.func43, Tryz.ntmps43
    go_wp2_with (at_builtin; refine wpList_append_rd _ rfl _ _ 28 rfl w.heap.size 5 i0 (.int .u8 0) 1 Tryz.underlying28 hi hz0 hz1 hz2 rfl _ _ _ rfl (own_empty _ _ _ _ (by simp) (by simp)) _ _ rfl (Rd.below HV.out ((Below.refl w.heap.size w).alloc (Nat.le_refl _) _) (Nat.le_refl _)) (bc_one l) (by simp; unfold maxLen; omega) (by simp; omega) (by simp) ?_; intro v2 w2 hown2 hg2)
    go_ret
    refine ⟨_, rfl, by simpa using hown2, ?_⟩
    exact ((Below.refl w.heap.size w).alloc (Nat.le_refl _) _).grown hg2 (by simp) (by intro k h; injection h with h; simp only at h; omega)
/-- what Put puts -/
def putE (e : Ex) : List UInt8 := if smallX e = true then putX 6 e else []
theorem putE_le (e : Ex) (h : smallX e = true → txtX 6 e) : (putE e).length ≤ 50400 := by
  unfold putE
  split
  · rename_i hs
    have h1 := putX_le 6 e (h hs)
    have h2 := ((smallX_iff e).1 hs).2
    omega
  · simp
set_option maxHeartbeats 1000000 in
/-- Put -/
theorem ePut_any (D : Nat) (e : Ex) (A : Option Addr) (c : Nat) (v : Value) (l : List UInt8) (w : World) (hx : ExK w D A c e) (htx : smallX e = true → txtX 6 e) (hok : okX 6 e) (hv : Bs w v l) (hl : l.length ≤ 5000) :
    Calls Tryz.prog 17 #[v, agX e.op A e.kids.length c e.name e.val] w (PutsV w (l ++ putE e)) := by
  have hle := putE_le e htx
  have q1 : ∀ W, Below w.heap.size w W → Calls Tryz.prog 43 #[v] W (Puts W l) := fun W hb => Clone_puts v l W (Rd.below hv hb (Nat.le_refl _)) (by omega)
  have q2 : ∀ W, Below w.heap.size w W → Calls Tryz.prog 47 #[agX e.op A e.kids.length c e.name e.val] W (VMk (.bool (smallX e)) W) := fun W hb => small_any D e A c W (hx.below hb (Nat.le_refl _))
  have q3 : smallX e = true → ∀ B z W, w.heap.size ≤ B → Below w.heap.size w W → B ≤ W.heap.size → W.ownsRow B 5 1 z l.length (l.map bc) → Calls Tryz.prog 48 #[z, agX e.op A e.kids.length c e.name e.val] W (PutsO B (l ++ putE e) W) := fun hs B z W h1 h2 h3 h4 => by
    have hp : putE e = putX 6 e := if_pos hs
    rw [hp] at hle ⊢
    exact appendParts_any w B h1 D 6 e A c z l W hx ((smallX_iff e).1 hs).1 (htx hs) hok h2 h3 h4 (by omega)
  have hno : smallX e = false → putE e = [] := fun h => if_neg (by rw [h]; decide)
  have HK := Lib.hid (Kid_new w e.op A e.kids.length c e.name e.val)
  have HW := Lib.hid (alloc1 w (bxX e.op A e.kids.length c e.name e.val))
  generalize putE e = pe at *
  have Q1 := Lib.hid q1
  have HNO := Lib.hid hno
  clear q1 hx htx hok hv hle hno
  generalize smallX e = sm at *
  have Q2 := Lib.hid q2
  have Q3 := Lib.hid q3
  clear q2 q3
  generalize e.kids.length = n at *
  generalize e.op = eop at *
  generalize e.name = enm at *
  generalize e.val = ev at *
  rcases sm with _ | _
  · have hp := HNO.out rfl
    subst hp
    go_enter Tryz.func17, Tryz.ntmps17
    go_wp2_with fail
    refine (Q1.out _ HW.out).mono ?_
    rintro _ w1 ⟨v1, rfl, ho1, hb1⟩
    have HO1 := Lib.hid ho1
    have HB1 := Lib.hid (bel2 HW.out hb1)
    obtain ⟨k0, k1, k2, k3, k4, k5, k6, k7⟩ := HK.out.below hb1
    clear ho1 hb1
    go_wp2_with fail
    refine (Q2.out _ HB1.out).mono ?_
    rintro _ w2 ⟨rfl, hb2⟩
    go_wp2
    go_ret
    exact ⟨_, _, rfl, HW.out.size, by rw [List.append_nil]; exact own_belowX HO1.out hb2, bel2 HB1.out hb2⟩
  · go_enter Tryz.func17, Tryz.ntmps17
    go_wp2_with fail
    refine (Q1.out _ HW.out).mono ?_
    rintro _ w1 ⟨v1, rfl, ho1, hb1⟩
    have HO1 := Lib.hid ho1
    have HB1 := Lib.hid (bel2 HW.out hb1)
    have HZ1 := Lib.hid hb1.size
    have HK1 := Lib.hid (HK.out.below hb1)
    obtain ⟨k0, k1, k2, k3, k4, k5, k6, k7⟩ := HK1.out
    clear ho1 hb1
    go_wp2_with fail
    refine (Q2.out _ HB1.out).mono ?_
    rintro _ w2 ⟨rfl, hb2⟩
    clear k0 k1 k2 k3 k4 k5 k6 k7
    have HO2 := Lib.hid (own_belowX HO1.out hb2)
    have HB2 := Lib.hid (bel2 HB1.out hb2)
    have HZ2 := Lib.hid (Nat.le_trans HZ1.out hb2.size)
    obtain ⟨k0, k1, k2, k3, k4, k5, k6, k7⟩ := HK1.out.below hb2
    clear hb2
    go_wp2_with fail
    refine (Q3.out (by trivial) _ _ _ HW.out.size HB2.out HZ2.out HO2.out).mono ?_
    rintro _ w3 ⟨v3, rfl, ho3, hb3⟩
    go_wp2
    go_ret
    exact ⟨_, _, rfl, HW.out.size, ho3, HB2.out.trans (hb3.mono HW.out.size)⟩
end Go.Proofs.YtkhpgejammgolaaGreat

/- Layer 5: is an expression small, by the document; does it name a field. -/
namespace Go.Proofs.YtkhpgejammgolaaGreat
open Go.RowKit
set_option linter.unusedVariables false
set_option linter.unusedSimpArgs false
set_option maxRecDepth 20000

theorem leftF_ge : ∀ (d : Nat) (e : Ex) (n : Int), 0 ≤ n → -1 ≤ leftF d e n
  | 0, e, n, _ => by show (-1 : Int) ≤ -1; omega
  | d + 1, e, n, h => by
    have hl : ∀ (ks : List Ex) (m : Int), -1 ≤ m → -1 ≤ leftL (leftF d) ks m := by
      intro ks
      induction ks with
      | nil => intro m hm; exact hm
      | cons k ks ih =>
        intro m hm
        unfold leftL
        split
        · exact hm
        · exact ih _ (leftF_ge d k m (by omega))
    exact hl e.kids (n - 1) (by omega)
set_option maxHeartbeats 2000000 in
theorem left_any : ∀ (D : Nat) (d : Nat) (e : Ex) (A : Option Addr) (c : Nat) (n deep : Int) (w : World), d ≤ 6 → deep = d → 0 ≤ n → n ≤ 24 → ExK w D A c e →
    Calls Tryz.prog 42 #[agX e.op A e.kids.length c e.name e.val, .int .i64 deep, .int .i64 n] w (VMk (.int .i64 (leftF d e n)) w)
  | 0, _, _, _, _, _, _, _, _, _, _, _, h => False.elim h
  | D + 1, d, e, A, c, n, deep, w, hd, hdeep, h0, h1, hx => by
    obtain ⟨h2, h3, h4, h5⟩ := hx
    have ih := left_any D
    unfold maxLen at h3
    have hlen : e.kids.length ≤ 9223372036854775807 := by omega
    have hwn : IntKind.i64.wrap (n - 1) = n - 1 := by rw [IntKind.wrap_i64]; omega
    cases d with
    | zero =>
      subst hdeep
      have hr : leftF 0 e n = -1 := rfl
      rw [hr]
      clear hr ih h5 h3 h4 h2 hd
      go_enter Tryz.func42, Tryz.ntmps42
      go_wp2
      go_ret
      exact ⟨rfl, (Below.refl _ _).alloc (Nat.le_refl _) _⟩
    | succ d' =>
      have hm : leftF (d' + 1) e n = leftL (leftF d') e.kids (n - 1) := rfl
      rw [hm]
      have hwd : IntKind.i64.wrap (deep - 1) = deep - 1 := by rw [IntKind.wrap_i64]; omega
      have hdp : ¬ deep < 1 := by omega
      have HIH := Lib.hid (fun e A c n W (hx : ExK w D A c e) (hn : 0 ≤ n) (hn4 : n ≤ 24) (hB : Below w.heap.size w W) => ih d' e A c n (deep - 1) W (by omega) (by omega) hn hn4 (hx.below hB (Nat.le_refl _)))
      have H5 := Lib.hid h5
      have HD := Lib.hid (And.intro hd hdeep)
      clear hm ih h5 hd hdeep h2 h3 h4
      generalize e.kids = ks at *
      generalize e.op = eop at *
      generalize e.name = enm at *
      generalize e.val = ev at *
      have hbx := Lib.hid (Kid_new w eop A ks.length c enm ev)
      go_enter Tryz.func42, Tryz.ntmps42
      go_wp2
      go_loopw [2, 7] (fun nv i wr => ∃ (k : Nat) (m : Int), k ≤ ks.length ∧ nv = .int .i64 m ∧ i = .int .i64 k ∧ leftL (leftF d') (ks.drop k) m = leftL (leftF d') ks (n - 1) ∧ -1 ≤ m ∧ m ≤ 24 ∧ Below w.heap.size w wr ∧ wr.cell? ⟨w.heap.size, 1, none⟩ = some (.slice A ks.length c)) (fun _ i _ => ks.length - (intOf i).toNat)
      case atStart => exact ⟨0, n - 1, Nat.zero_le _, rfl, rfl, rfl, by omega, by omega, (Below.refl _ _).alloc (Nat.le_refl _) _, hbx.out.2.1⟩
      case round =>
        obtain ⟨k, m, hk, rfl, rfl, hm, hm0, hm4, hb, hc⟩ := hrel
        by_cases hlt : k < ks.length
        · by_cases hp : 0 ≤ m
          · obtain ⟨ad, A', c', rfl, hbl, hkid, hsub⟩ := H5.out k hlt
            obtain ⟨q0, q1, q2, q3, q4, q5, q6, q7⟩ := hkid.below hb (by rw [block_add]; exact hbl)
            have hcall := HIH.out ks[k] A' c' m wr hsub hp hm4 hb
            have hdr := leftL_drop (leftF d') ks k hlt m hp
            have hle := leftF_le d' ks[k] m
            have hge := leftF_ge d' ks[k] m hp
            rw [hdr] at hm
            generalize leftF d' ks[k] m = m' at hcall hm hle hge
            generalize ks[k].op = ko at q0 hcall
            generalize ks[k].name = kn at q2 hcall
            generalize ks[k].val = ky at q3 q4 q5 q6 q7 hcall
            generalize ks[k].kids.length = kl at q1 hcall
            have HC := Lib.hid hcall
            have HM := Lib.hid hm
            have hcl := World.block_lt_of_cell? wr _ hc
            have hltI : (k : Int) < (ks.length : Int) := by omega
            clear hcall hm hdr hkid hsub
            go_wp2_with (go_at_call 42; refine HC.out.mono ?_; rintro e w2 ⟨rfl, hb2⟩)
            go_roundw
            case rel => exact ⟨k + 1, m', by omega, rfl, by go_num, HM.out, hge, by omega, hb.trans (hb2.mono hb.size), keepc hb2 hcl hc⟩
            case measure => simp [intOf]; omega
          · have hr : m = leftL (leftF d') ks (n - 1) := by rw [← hm, leftL_neg _ _ _ (by omega)]
            have HR := Lib.hid hr
            have hltI : (k : Int) < (ks.length : Int) := by omega
            clear hr hm
            go_wp2
            go_ret
            exact ⟨ret_int HR.out, hb⟩
        · obtain rfl : k = ks.length := by omega
          have hr : m = leftL (leftF d') ks (n - 1) := by rw [← hm, List.drop_length]; rfl
          have HR := Lib.hid hr
          clear hr hm
          go_wp2
          go_ret
          exact ⟨ret_int HR.out, hb⟩
theorem rSmall_any (D : Nat) (e : Ex) (A : Option Addr) (c : Nat) (w : World) (hx : ExK w D A c e) : Calls Tryz.prog 11 #[agX e.op A e.kids.length c e.name e.val] w (VMk (.bool (smallX e)) w) := by
  have hl := fun o => left_any D 6 e A c 24 6 (w.alloc o) (by omega) (by decide) (by decide) (by decide) (hx.below ((Below.refl w.heap.size w).alloc (Nat.le_refl _) o) (Nat.le_refl _))
  have hs : smallX e = decide (0 ≤ leftF 6 e 24) := rfl
  rw [hs]
  clear hs hx
  generalize leftF 6 e 24 = m at *
  generalize e.kids.length = n at *
  generalize e.op = eop at *
  generalize e.name = enm at *
  generalize e.val = ev at *
  have HL := Lib.hid hl
  clear hl
  go_enter Tryz.func11, Tryz.ntmps11
  go_wp2_with (go_at_call 42; refine (HL.out _).mono ?_; rintro e w1 ⟨rfl, hb1⟩)
  go_ret
  exact ⟨rfl, ((Below.refl _ _).alloc (Nat.le_refl _) _).trans (hb1.mono (by simp))⟩
end Go.Proofs.YtkhpgejammgolaaGreat

/- Layer 5: expressions as bytes, by the document. -/
namespace Go.Proofs.YtkhpgejammgolaaGreat
open Go.RowKit
set_option linter.unusedVariables false
set_option linter.unusedSimpArgs false
set_option maxRecDepth 20000

theorem PutsV.to {w W w' : World} {l : List UInt8} {e : Ending} (h : PutsV W l e w') (hb : Below w.heap.size w W) : PutsV w l e w' := by
  obtain ⟨v', B, rfl, h0, h1, h2⟩ := h
  exact ⟨v', B, rfl, Nat.le_trans hb.size h0, h1, bel2 hb h2⟩
end Go.Proofs.YtkhpgejammgolaaGreat

/- Layer 5: rows of structs that are copied behind one another. -/
namespace Go.Proofs.YtkhpgejammgolaaGreat
open Go.RowKit
set_option linter.unusedVariables false
set_option linter.unusedSimpArgs false
set_option maxRecDepth 20000

/-- the slice value y holds m elements of so many cells: news -/
def RowS (w : World) (size : Nat) (y : Value) (m : Nat) (news : List Value) : Prop :=
  ∃ A c, y = .slice A m c ∧ news.length = m * size ∧ (A = none → m = 0 ∧ c = 0) ∧ ∀ a, A = some a → ∀ j u, news[j]? = some u → w.cell? (a.add j) = some u
theorem RowS.below {w w' : World} {size : Nat} {y : Value} {m : Nat} {news : List Value} (h : RowS w size y m news) (hb : Below w.heap.size w w') : RowS w' size y m news := by
  obtain ⟨A, c, e, h1, h2, h3⟩ := h
  refine ⟨A, c, e, h1, h2, fun a ha j u hj => ?_⟩
  have h4 := h3 a ha j u hj
  have hl := World.block_lt_of_cell? w _ h4
  exact (hb.cell hl).trans h4
section
variable {P : Program} {w : World}
theorem run_append_rows (base : Nat) (t ty e : TypeId) (i : TypeInfo) (z : Value) (size bytes : Nat) (ht : P.underlying t = some (.slice e)) (hi : P.info? e = some i) (hz : i.zero = some z)
    (hsize : i.size = size) (hby : i.bytes = bytes) (hzs : z.cells.size = size) (hpos : 0 < size)
    (v : Value) (n : Nat) (xs : List Value) (hown : w.ownsRow base e size v n xs)
    (y : Value) (m : Nat) (news : List Value) (hr : RowS w size y m news) (h1 : ∀ u ∈ news, u.oneCell' = true)
    (h63 : n + m ≤ maxLen) (hbytes : (n + m) * bytes ≤ 140737488355328) (hbase : base ≤ w.heap.size) :
    ∃ v' w', (Builtin.append_ #[t, t] ty #[v, y]).run P w = .ok v' w' ∧ w'.ownsRow base e size v' (n + m) (xs ++ news) ∧ w.grownBy w' v.ownBlock ∧
      (v'.ownBlock = v.ownBlock ∨ v'.ownBlock = some w.heap.size) := by
  obtain ⟨A, c, rfl, hl, hn, hx⟩ := hr
  rcases A with _ | ad
  · obtain ⟨rfl, rfl⟩ := hn rfl
    have : news = [] := List.eq_nil_of_length_eq_zero (by omega)
    subst this
    exact ⟨v, w, run_append_nothing w base t ty e i size ht hi v n xs hown 0, by simpa using hown, World.grownBy.refl w _, .inl rfl⟩
  · obtain ⟨v', w', hrun, h2, h3, _, h5⟩ := run_append_own_at (P := P) w base t ty e i z size bytes ht hi hz hsize hby hzs hpos v n xs hown ad m c news hl (hx ad rfl) h1 h63 hbytes hbase
    exact ⟨v', w', hrun, h2, h3, h5⟩
end
/-- a field's, a value's cells -/
structure Fx8 where
  f : Fd
  A : Option Addr
  n : Nat
  c : Nat
  y : Vl
def Fx8.cells (q : Fx8) : List Value := [.string q.f.name, .int .i64 q.f.kind, .slice q.A q.n q.c, .int .i64 q.y.k, .int .i64 q.y.i, .bool q.y.b, .string q.y.s, .float .f64 q.y.n]
theorem flat_len {α : Type} (f : α → List Value) (s : Nat) (hf : ∀ x, (f x).length = s) : ∀ l : List α, (l.flatMap f).length = l.length * s
  | [] => by simp
  | x :: l => by rw [List.flatMap_cons, List.length_append, hf, flat_len f s hf l, List.length_cons, Nat.add_mul]; omega
theorem flat_get {α : Type} (f : α → List Value) (s : Nat) (hf : ∀ x, (f x).length = s) : ∀ (l : List α) (j o : Nat) (hj : j < l.length), o < s → (l.flatMap f)[j * s + o]? = (f l[j])[o]?
  | [], j, o, hj, _ => absurd hj (Nat.not_lt_zero _)
  | x :: l, 0, o, _, ho => by rw [List.flatMap_cons, Nat.zero_mul, Nat.zero_add, List.getElem?_append_left (by rw [hf]; exact ho), List.getElem_cons_zero]
  | x :: l, j + 1, o, hj, ho => by
    rw [List.flatMap_cons, List.getElem?_append_right (by rw [hf, Nat.add_mul]; omega), hf, List.getElem_cons_succ, show (j + 1) * s + o - s = j * s + o by rw [Nat.add_mul]; omega]
    exact flat_get f s hf l j o (by simpa using hj) ho
end Go.Proofs.YtkhpgejammgolaaGreat

/- Layer 5: rows of fields, of values as what is copied. -/
namespace Go.Proofs.YtkhpgejammgolaaGreat
open Go.RowKit
set_option linter.unusedVariables false
set_option linter.unusedSimpArgs false
set_option maxRecDepth 20000

instance : Inhabited Fd := ⟨⟨⟨#[]⟩, 0⟩⟩
/-- one of them in a new block -/
theorem rows_one (w : World) (cs : List Value) (e : TypeId) (size : Nat) (h : cs.length = size) : RowS (w.alloc (.cells cs.toArray e)) size (.slice (some ⟨w.heap.size, 0, none⟩) 1 1) 1 cs := by
  have hn := heap_alloc_new w (.cells cs.toArray e)
  refine ⟨_, 1, rfl, by omega, fun h => (by cases h), fun a ha j u hj => ?_⟩
  injection ha with ha
  subst ha
  rw [Addr.add_lit, Nat.zero_add, cell_of_row _ _ _ _ _ (0, 0) hn]
  simpa using hj
end Go.Proofs.YtkhpgejammgolaaGreat

/- Layer 5: expressions that are read: kids in new memory; what is read is bounded. -/
namespace Go.Proofs.YtkhpgejammgolaaGreat
open Go.RowKit
set_option linter.unusedVariables false
set_option linter.unusedSimpArgs false
set_option maxRecDepth 20000

/-- e's kids lie in the row (A, .., c), in blocks of S, and so on -/
def ExS (S : Nat → Prop) (w : World) : Nat → Option Addr → Nat → Ex → Prop
  | 0, _, _, _ => False
  | d + 1, A, c, e => e.kids.length ≤ c ∧ c ≤ maxLen ∧ (A = none → c = 0) ∧ ∀ j (hj : j < e.kids.length), ∃ ad A' c', A = some ad ∧ ad.block < w.heap.size ∧ S ad.block ∧ Kid w (ad.add (j * 8)) e.kids[j].op A' e.kids[j].kids.length c' e.kids[j].name e.kids[j].val ∧ ExS S w d A' c' e.kids[j]
theorem ExS.exk {S : Nat → Prop} {w : World} : ∀ {d : Nat} {A : Option Addr} {c : Nat} {e : Ex}, ExS S w d A c e → ExK w d A c e
  | 0, _, _, _, h => False.elim h
  | d + 1, A, c, e, h => by
    obtain ⟨h1, h2, h3, h4⟩ := h
    refine ⟨h1, h2, h3, fun j hj => ?_⟩
    obtain ⟨ad, A', c', e1, e2, -, e3, e4⟩ := h4 j hj
    exact ⟨ad, A', c', e1, e2, e3, ExS.exk e4⟩
theorem Kid.at {w w' : World} {p : Addr} {op : Int} {A : Option Addr} {n c : Nat} {nm : ByteArray} {y : Vl} (h : Kid w p op A n c nm y) (hb : w'.heap[p.block]? = w.heap[p.block]?) : Kid w' p op A n c nm y := by
  obtain ⟨h0, h1, h2, h3, h4, h5, h6, h7⟩ := h
  have k : ∀ o, w'.cell? ⟨p.block, o, none⟩ = w.cell? ⟨p.block, o, none⟩ := fun o => World.cell?_of_block (a := ⟨p.block, o, none⟩) hb
  exact ⟨(World.cell?_of_block hb).trans h0, (k _).trans h1, (k _).trans h2, (k _).trans h3, (k _).trans h4, (k _).trans h5, (k _).trans h6, (k _).trans h7⟩
theorem ExS.move {S T : Nat → Prop} {w w' : World} (h : ∀ b, S b → b < w.heap.size → w'.heap[b]? = w.heap[b]? ∧ T b) (hz : w.heap.size ≤ w'.heap.size) : ∀ {d : Nat} {A : Option Addr} {c : Nat} {e : Ex}, ExS S w d A c e → ExS T w' d A c e
  | 0, _, _, _, h => False.elim h
  | d + 1, A, c, e, hx => by
    obtain ⟨h1, h2, h3, h4⟩ := hx
    refine ⟨h1, h2, h3, fun j hj => ?_⟩
    obtain ⟨ad, A', c', e1, e2, e5, e3, e4⟩ := h4 j hj
    obtain ⟨f1, f2⟩ := h _ e5 e2
    exact ⟨ad, A', c', e1, Nat.lt_of_lt_of_le e2 hz, f2, e3.at (by rw [block_add]; exact f1), ExS.move h hz e4⟩
theorem ExS.leaf (S : Nat → Prop) (w : World) (d : Nat) (e : Ex) (h : e.kids = []) : ExS S w (d + 1) none 0 e := by
  refine ⟨by rw [h]; exact Nat.le_refl _, Nat.zero_le _, fun _ => rfl, fun j hj => ?_⟩
  rw [h] at hj; exact absurd hj (Nat.not_lt_zero _)
/-- a kid that was read, where its own kids lie -/
structure Kx where
  e : Ex
  A : Option Addr
  c : Nat
def Kx.cells (q : Kx) : List Value := [.int .i64 q.e.op, .slice q.A q.e.kids.length q.c, .string q.e.name, .int .i64 q.e.val.k, .int .i64 q.e.val.i, .bool q.e.val.b, .string q.e.val.s, .float .f64 q.e.val.n]
theorem kx_one (qs : List Kx) : ∀ u ∈ qs.flatMap Kx.cells, u.oneCell' = true := by
  intro u hu
  obtain ⟨q, -, hu⟩ := List.mem_flatMap.1 hu
  simp only [Kx.cells, List.mem_cons, List.not_mem_nil, or_false] at hu
  rcases hu with rfl | rfl | rfl | rfl | rfl | rfl | rfl | rfl <;> rfl
/-- an own row of kids -/
theorem exs_own {S T : Nat → Prop} {w : World} {base : Nat} {v : Value} {n d : Nat} {qs : List Kx} (h : w.ownsRow base 27 8 v n (qs.flatMap Kx.cells)) (hk : ∀ q ∈ qs, ExS S w d q.A q.c q.e) (hST : ∀ b, S b → T b) (hT : ∀ b, base ≤ b → T b) (op : Int) (nm : ByteArray) (y : Vl) :
    ∃ A c, v = .slice A (qs.map Kx.e).length c ∧ ExS T w (d + 1) A c (.mk op nm y (qs.map Kx.e)) := by
  have hl := h.1
  rw [flat_len Kx.cells 8 (fun _ => rfl)] at hl
  have hn : n = qs.length := by omega
  subst hn
  rcases h.2 with ⟨rfl, h0⟩ | ⟨g, cap, cur, rfl, hbase, hg, hc, hm, hcs, ht⟩
  · have : qs = [] := List.eq_nil_of_length_eq_zero h0
    subst this
    exact ⟨none, 0, rfl, ExS.leaf _ _ _ _ rfl⟩
  · refine ⟨some ⟨g, 0, none⟩, cap, by rw [List.length_map], ?_, hm, fun h => (by cases h), fun j hj => ?_⟩
    · show (qs.map Kx.e).length ≤ cap
      rw [List.length_map]; exact hc
    have hjl : j < qs.length := by simpa [Ex.kids] using hj
    have hat : ∀ o, o < 8 → w.cell? ⟨g, j * 8 + o, none⟩ = (qs[j].cells)[o]? := fun o ho => by
      rw [cell_of_row w g _ _ _ (0, 0) hg, ← flat_get Kx.cells 8 (fun _ => rfl) qs j o hjl ho, ← ht, List.getElem?_take, if_pos (by omega), Array.getElem?_toList]
    have hge : (Ex.mk op nm y (qs.map Kx.e)).kids[j] = qs[j].e := by simp [Ex.kids]
    rw [hge]
    refine ⟨⟨g, 0, none⟩, qs[j].A, qs[j].c, rfl, (Array.getElem?_eq_some_iff.1 hg).1, hT g hbase, ?_, (hk _ (List.getElem_mem hjl)).move (fun b hb _ => ⟨rfl, hST b hb⟩) (Nat.le_refl _)⟩
    rw [Addr.add_lit, Nat.zero_add]
    exact ⟨hat 0 (by omega), hat 1 (by omega), hat 2 (by omega), hat 3 (by omega), hat 4 (by omega), hat 5 (by omega), hat 6 (by omega), hat 7 (by omega)⟩

/-- all blocks but two are as they were; new ones may be there -/
structure Twb (g s : Nat) (w w' : World) : Prop where
  os : w'.os = w.os
  tape : w'.tape = w.tape
  output : w'.output = w.output
  size : w.heap.size ≤ w'.heap.size
  block : ∀ k, k < w.heap.size → k ≠ g → k ≠ s → w'.heap[k]? = w.heap[k]?
theorem Twb.refl (g s : Nat) (w : World) : Twb g s w w := ⟨rfl, rfl, rfl, Nat.le_refl _, fun _ _ _ _ => rfl⟩
theorem Twb.trans {g s : Nat} {a b c : World} (h : Twb g s a b) (k : Twb g s b c) : Twb g s a c :=
  ⟨k.os.trans h.os, k.tape.trans h.tape, k.output.trans h.output, Nat.le_trans h.size k.size, fun i hi h1 h2 => (k.block i (Nat.lt_of_lt_of_le hi h.size) h1 h2).trans (h.block i hi h1 h2)⟩
theorem Only.two {g : Nat} {w w' : World} (h : Only g w w') (s : Nat) : Twb g s w w' := ⟨h.os, h.tape, h.output, h.size, fun k hk h1 _ => h.block k hk (by intro e; injection e with e; exact h1 e)⟩
theorem Only.two' {s : Nat} {w w' : World} (h : Only s w w') (g : Nat) : Twb g s w w' := ⟨h.os, h.tape, h.output, h.size, fun k hk _ h1 => h.block k hk (by intro e; injection e with e; exact h1 e)⟩
theorem Below.two {w w' : World} (h : Below w.heap.size w w') (g s : Nat) : Twb g s w w' := ⟨h.os, h.tape, h.output, h.size, fun k hk _ _ => h.block k hk⟩
theorem Twb.below {g s B : Nat} {w w' : World} (h : Twb g s w w') (hB : B ≤ w.heap.size) (hg : B ≤ g) (hs : B ≤ s) : Below B w w' := ⟨h.os, h.tape, h.output, h.size, fun k hk => h.block k (by omega) (by omega) (by omega)⟩
theorem Twb.only {g s : Nat} {w w' : World} (h : Twb g s w w') (hs : w.heap.size ≤ s) : Only g w w' := ⟨h.os, h.tape, h.output, h.size, fun k hk h1 => h.block k hk (by intro e; exact h1 (by rw [e])) (by omega)⟩
/-- a store into a block that is new -/
theorem Twb.setNew {g s k : Nat} {a w : World} (h : Twb g s a w) (hk : a.heap.size ≤ k) (j : Nat) (u : Value) : Twb g s a (w.setCell ⟨k, j, none⟩ u) :=
  ⟨h.os, h.tape, h.output, by simpa [World.setCell] using h.size, fun m hm h1 h2 => (Below.heap_setCell w _ u m (by intro e; simp only at e; omega)).trans (h.block m hm h1 h2)⟩

/-! what is read, by definition -/
theorem stepF_len (k : Nat) (al : Int → Int) (rest : List UInt8) (e : Int) : (stepF k al rest e).2.1.length ≤ rest.length := by
  unfold stepF
  split
  · exact Nat.le_refl _
  split
  · exact Nat.le_refl _
  split
  · exact Nat.le_refl _
  · simp
theorem bytesF_len (most : Int) (rest : List UInt8) (e : Int) : (bytesF most rest e).2.1.length ≤ rest.length := by
  have h := stepF_len 4 (alBytes most rest) rest e
  unfold bytesF
  split
  · exact h
  · simp only [List.length_drop]
    omega
theorem readF_len (rest : List UInt8) (e : Int) : (readF rest e).2.1.length ≤ rest.length := by
  have h1 := stepF_len 8 alInt rest e
  unfold readF
  split
  · exact Nat.le_trans (stepF_len 8 alInt _ _) h1
  split
  · exact Nat.le_trans (stepF_len 1 alBool _ _) h1
  split
  · exact Nat.le_trans (bytesF_len 32 _ _) h1
  split
  · exact Nat.le_trans (stepF_len 8 alNum _ _) h1
  · exact h1
/-- a value or the zero one, behind an error, too -/
def rvF (rest : List UInt8) (e : Int) : Vl × List UInt8 × Int := if e = 0 then zeroF rest else (vZero, rest, e)
theorem rvF_0 (rest : List UInt8) : rvF rest 0 = zeroF rest := if_pos rfl
theorem zeroF_no (rest : List UInt8) (h : ¬ (wrap64 ((stepF 8 alInt rest 0).1 : Int) = 0 ∧ (stepF 8 alInt rest 0).2.2 = 0)) : zeroF rest = (getV rest 0, (readF rest 0).2.1, getE rest 0) := if_neg h
theorem zeroF_yes (rest : List UInt8) (h : (wrap64 ((stepF 8 alInt rest 0).1 : Int) = 0 ∧ (stepF 8 alInt rest 0).2.2 = 0)) : zeroF rest = (vZero, (stepF 8 alInt rest 0).2.1, 0) := if_pos h
theorem mid_eq {α β γ : Type} {x : α × β × γ} {a : α} {b : β} {c : γ} (h : x = (a, b, c)) : x.2.1 = b := by subst h; rfl
theorem zeroF_len (rest : List UInt8) : (zeroF rest).2.1.length ≤ rest.length := by
  by_cases h : (wrap64 ((stepF 8 alInt rest 0).1 : Int) = 0 ∧ (stepF 8 alInt rest 0).2.2 = 0)
  · have e := mid_eq (zeroF_yes rest h)
    rw [e]; exact stepF_len 8 alInt rest 0
  · have e := mid_eq (zeroF_no rest h)
    rw [e]; exact readF_len rest 0
theorem rvF_len (rest : List UInt8) (e : Int) : (rvF rest e).2.1.length ≤ rest.length := by
  by_cases he : e = 0
  · subst he
    rw [rvF_0]
    exact zeroF_len rest
  · rw [show rvF rest e = (vZero, rest, e) from if_neg he]
    exact Nat.le_refl _
theorem rvF_err (rest : List UInt8) (e : Int) (he : e ≠ 0) : rvF rest e = (vZero, rest, e) := if_neg he
theorem headX_bd {rest r4 : List UInt8} {o : Int} {c : Nat} {m : ByteArray} {v : Vl} (h : headX rest = .ok (o, c, m, v, r4)) : r4.length ≤ rest.length := by
  unfold headX at h
  split at h
  · cases h
  split at h
  · cases h
  · injection h with h
    simp only [Prod.mk.injEq] at h
    rw [← h.2.2.2.2]
    exact Nat.le_trans (zeroF_len _) (Nat.le_trans (bytesF_len 16 _ _) (Nat.le_trans (stepF_len 4 _ _ _) (stepF_len 8 alInt rest 0)))
theorem headX_er {rest : List UInt8} {e : Int} (h : headX rest = .error e) : e ≠ 0 := by
  unfold headX at h
  split at h
  · rename_i h1
    injection h with h
    rw [← h]; exact h1
  split at h
  · rename_i h1 h2
    injection h with h
    rw [← h]; exact h2
  · cases h
theorem getL_bd {f : Int → List UInt8 → Except Int (Ex × Int × List UInt8)} (hf : ∀ n r k n' r', 0 ≤ n → f n r = .ok (k, n', r') → 0 ≤ n' ∧ n' ≤ n ∧ r'.length ≤ r.length) :
    ∀ (c : Nat) (n : Int) (r : List UInt8) (ks : List Ex) (n' : Int) (r' : List UInt8), 0 ≤ n → getL f c n r = .ok (ks, n', r') → 0 ≤ n' ∧ n' ≤ n ∧ r'.length ≤ r.length
  | 0, n, r, ks, n', r', h0, h => by
    unfold getL at h
    injection h with h
    simp only [Prod.mk.injEq] at h
    obtain ⟨-, rfl, rfl⟩ := h
    exact ⟨h0, Int.le_refl _, Nat.le_refl _⟩
  | c + 1, n, r, ks, n', r', h0, h => by
    unfold getL at h
    rcases h1 : f n r with er | ⟨k, n1, r1⟩
    · rw [h1] at h; cases h
    · rw [h1] at h
      dsimp only at h
      rcases h2 : getL f c n1 r1 with er | ⟨ks', n2, r2⟩
      · rw [h2] at h; cases h
      · rw [h2] at h
        dsimp only at h
        injection h with h
        simp only [Prod.mk.injEq] at h
        obtain ⟨-, rfl, rfl⟩ := h
        obtain ⟨a1, a2, a3⟩ := hf n r k n1 r1 h0 h1
        obtain ⟨b1, b2, b3⟩ := getL_bd hf c n1 r1 ks' _ _ a1 h2
        exact ⟨b1, by omega, by omega⟩
theorem getL_er {f : Int → List UInt8 → Except Int (Ex × Int × List UInt8)} (hf : ∀ n r e, f n r = .error e → e ≠ 0) :
    ∀ (c : Nat) (n : Int) (r : List UInt8) (e : Int), getL f c n r = .error e → e ≠ 0
  | 0, n, r, e, h => by unfold getL at h; cases h
  | c + 1, n, r, e, h => by
    unfold getL at h
    rcases h1 : f n r with er | ⟨k, n1, r1⟩
    · rw [h1] at h
      dsimp only at h
      injection h with h
      rw [← h]; exact hf n r er h1
    · rw [h1] at h
      dsimp only at h
      rcases h2 : getL f c n1 r1 with er | ⟨ks', n2, r2⟩
      · rw [h2] at h
        dsimp only at h
        injection h with h
        rw [← h]; exact getL_er hf c n1 r1 er h2
      · rw [h2] at h; cases h
theorem getX_bd : ∀ (d : Nat) (n : Int) (r : List UInt8) (k : Ex) (n' : Int) (r' : List UInt8), 0 ≤ n → getX d n r = .ok (k, n', r') → 0 ≤ n' ∧ n' ≤ n ∧ r'.length ≤ r.length
  | 0, n, r, k, n', r', _, h => by unfold getX getXH at h; cases h
  | d + 1, n, r, k, n', r', h0, h => by
    unfold getX at h
    rw [getXH] at h
    by_cases hn : n < 1
    · rw [if_pos hn] at h; cases h
    rw [if_neg hn] at h
    rcases h1 : headX r with er | ⟨o, c, m, v, r4⟩
    · rw [h1] at h; cases h
    · rw [h1] at h
      dsimp only at h
      rcases h2 : getL (getXH headX d) c (n - 1) r4 with er | ⟨ks, n2, r2⟩
      · rw [h2] at h; cases h
      · rw [h2] at h
        dsimp only at h
        injection h with h
        simp only [Prod.mk.injEq] at h
        obtain ⟨-, rfl, rfl⟩ := h
        obtain ⟨b1, b2, b3⟩ := getL_bd (getX_bd d) c (n - 1) r4 ks _ _ (by omega) h2
        have := headX_bd h1
        exact ⟨b1, by omega, by omega⟩
theorem getX_er : ∀ (d : Nat) (n : Int) (r : List UInt8) (e : Int), getX d n r = .error e → e ≠ 0
  | 0, n, r, e, h => by unfold getX getXH at h; injection h with h; omega
  | d + 1, n, r, e, h => by
    unfold getX at h
    rw [getXH] at h
    by_cases hn : n < 1
    · rw [if_pos hn] at h; injection h with h; omega
    rw [if_neg hn] at h
    rcases h1 : headX r with er | ⟨o, c, m, v, r4⟩
    · rw [h1] at h
      dsimp only at h
      injection h with h
      rw [← h]; exact headX_er h1
    · rw [h1] at h
      dsimp only at h
      rcases h2 : getL (getXH headX d) c (n - 1) r4 with er | ⟨ks, n2, r2⟩
      · rw [h2] at h
        dsimp only at h
        injection h with h
        rw [← h]; exact getL_er (getX_er d) c (n - 1) r4 er h2
      · rw [h2] at h; cases h
/-- what was read ahead, and what is read -/
def pre (l : List Ex) (x : Except Int (List Ex × Int × List UInt8)) : Except Int (List Ex × Int × List UInt8) := match x with
  | .error e => .error e
  | .ok (ks, n, r) => .ok (l ++ ks, n, r)
theorem pre_nil (x : Except Int (List Ex × Int × List UInt8)) : pre [] x = x := by
  rcases x with e | ⟨ks, n, r⟩ <;> rfl
theorem pre_ok {f : Int → List UInt8 → Except Int (Ex × Int × List UInt8)} {l : List Ex} {c : Nat} {n n1 : Int} {r r1 : List UInt8} {k : Ex} (h : f n r = .ok (k, n1, r1)) : pre l (getL f (c + 1) n r) = pre (l ++ [k]) (getL f c n1 r1) := by
  rw [getL, h]
  dsimp only
  rcases getL f c n1 r1 with e | ⟨ks, n2, r2⟩
  · rfl
  · simp [pre]
theorem pre_no {f : Int → List UInt8 → Except Int (Ex × Int × List UInt8)} {l : List Ex} {c : Nat} {n : Int} {r : List UInt8} {e : Int} (h : f n r = .error e) : pre l (getL f (c + 1) n r) = .error e := by
  rw [getL, h]
  rfl
theorem pre_end {f : Int → List UInt8 → Except Int (Ex × Int × List UInt8)} {l : List Ex} {n : Int} {r : List UInt8} : pre l (getL f 0 n r) = .ok (l, n, r) := by
  rw [getL]
  simp [pre]
end Go.Proofs.YtkhpgejammgolaaGreat

/- Layer 5: are two expressions the same, by the document. -/
namespace Go.Proofs.YtkhpgejammgolaaGreat
open Go.RowKit
set_option linter.unusedVariables false
set_option linter.unusedSimpArgs false
set_option maxRecDepth 20000

theorem sameL_len (f : Ex → Ex → Bool) : ∀ (la lb : List Ex), la.length ≠ lb.length → sameL f la lb = false
  | [], [], h => absurd rfl h
  | [], b :: lb, _ => rfl
  | a :: la, [], _ => rfl
  | a :: la, b :: lb, h => by
    rw [sameL, sameL_len f la lb (by intro e; apply h; simp [e]), Bool.and_false]
theorem sameL_drop (f : Ex → Ex → Bool) (la lb : List Ex) (k : Nat) (ha : k < la.length) (hb : k < lb.length) : sameL f (la.drop k) (lb.drop k) = (f la[k] lb[k] && sameL f (la.drop (k + 1)) (lb.drop (k + 1))) := by
  rw [List.drop_eq_getElem_cons ha, List.drop_eq_getElem_cons hb, sameL]
theorem sameX_succ (d : Nat) (a b : Ex) : sameX (d + 1) a b = (a.op == b.op && (a.name.toList == b.name.toList) && sameV a.val b.val && sameL (sameX d) a.kids b.kids) := rfl
theorem CellsX.drew {W : World} {b : Nat} {op : Int} {A : Option Addr} {n c : Nat} {nm : ByteArray} {y : Vl} (h : CellsX W b op A n c nm y) : CellsX W.drew b op A n c nm y := h

set_option maxHeartbeats 8000000 in
theorem rSameX_any : ∀ (D D' d : Nat) (a b : Ex) (A B : Option Addr) (ca cb : Nat) (w : World), ExK w D A ca a → ExK w D' B cb b → deepX d a →
    Calls Tryz.prog 19 #[agX a.op A a.kids.length ca a.name a.val, agX b.op B b.kids.length cb b.name b.val] w (VMk (.bool (sameX d a b)) w)
  | 0, _, _, _, _, _, _, _, _, _, h, _, _ => False.elim h
  | D + 1, 0, _, _, _, _, _, _, _, _, _, h, _ => False.elim h
  | D + 1, D' + 1, 0, _, _, _, _, _, _, _, _, _, h => False.elim h
  | D + 1, D' + 1, d + 1, a, b, A, B, ca, cb, w, hxa, hxb, hdp => by
    obtain ⟨a2, a3, a4, a5⟩ := hxa
    obtain ⟨b2, b3, b4, b5⟩ := hxb
    have ih := rSameX_any D D' d
    replace hdp : ∀ k ∈ a.kids, deepX d k := hdp
    unfold maxLen at a3 b3
    have hla : a.kids.length ≤ 9223372036854775807 := by omega
    have hlb : b.kids.length ≤ 9223372036854775807 := by omega
    have hlen := sameL_len (sameX d) a.kids b.kids
    have hdr := sameL_drop (sameX d) a.kids b.kids
    rw [sameX_succ]
    have hsv : ∀ W, Calls Tryz.prog 50 #[agV a.val, agV b.val] W (VMk (.bool (sameV a.val b.val)) W) := fun W => rSame_val a.val b.val W
    generalize sameV a.val b.val = sv at hsv ⊢
    have HSV := Lib.hid hsv
    have HIH := Lib.hid (fun (j : Nat) (ha : j < a.kids.length) (hb : j < b.kids.length) A' B' ca' cb' W (hx : ExK w D A' ca' a.kids[j]) (hy : ExK w D' B' cb' b.kids[j]) (hB : Below w.heap.size w W) => ih a.kids[j] b.kids[j] A' B' ca' cb' W (hx.below hB (Nat.le_refl _)) (hy.below hB (Nat.le_refl _)) (hdp _ (List.getElem_mem ha)))
    have HLEN := Lib.hid hlen
    have HDR := Lib.hid hdr
    have A5 := Lib.hid a5
    have B5 := Lib.hid b5
    clear ih hsv hlen hdr a5 b5 hdp a2 a3 a4 b2 b3 b4
    generalize a.kids = ka at *
    generalize b.kids = kb at *
    generalize a.op = aop at *
    generalize b.op = bop at *
    generalize a.name = an at *
    generalize b.name = bn at *
    generalize a.val = av at *
    generalize b.val = bv at *
    have hka := Kid_new w aop A ka.length ca an av
    have hkb := Kid_new (w.alloc (bxX aop A ka.length ca an av)) bop B kb.length cb bn bv
    rw [World.size_alloc] at hkb
    have HKA := Lib.hid (hka.below (alloc1 _ (bxX bop B kb.length cb bn bv)))
    have HKB := Lib.hid hkb
    have HW := Lib.hid (vbox2 w (bxX aop A ka.length ca an av) (bxX bop B kb.length cb bn bv))
    clear hka hkb
    rcases h1 : (aop == bop) with _ | _
    · rw [Bool.false_and, Bool.false_and, Bool.false_and]
      have h1b : (aop != bop) = true := by simp only [bne, h1]; rfl
      clear h1
      go_enter Tryz.func19, Tryz.ntmps19
      go_wp2
      go_ret
      exact ⟨rfl, HW.out⟩
    rw [Bool.true_and]
    have h1b : (aop != bop) = false := by simp only [bne, h1]; rfl
    clear h1
    rcases h2 : (an.toList == bn.toList) with _ | _
    · rw [Bool.false_and, Bool.false_and]
      have h2b : (an.toList != bn.toList) = true := by simp only [bne, h2]; rfl
      go_enter Tryz.func19, Tryz.ntmps19
      go_wp2
      go_ret
      exact ⟨rfl, HW.out⟩
    rw [Bool.true_and]
    have h2b : (an.toList != bn.toList) = false := by simp only [bne, h2]; rfl
    rcases sv with _ | _
    · rw [Bool.false_and]
      go_enter Tryz.func19, Tryz.ntmps19
      obtain ⟨x0, x1, x2, x3, x4, x5, x6, x7⟩ := HKA.out
      obtain ⟨y0, y1, y2, y3, y4, y5, y6, y7⟩ := HKB.out
      go_wp2_with (go_at_call 50; refine (HSV.out _).mono ?_; rintro _ w1 ⟨rfl, hb1⟩)
      go_ret
      exact ⟨rfl, bel2 HW.out hb1⟩
    rw [Bool.true_and]
    by_cases hl : ka.length = kb.length
    · have hlb : ((ka.length : Int) != (kb.length : Int)) = false := by simp [hl]
      have HL := Lib.hid hl
      clear hl
      go_enter Tryz.func19, Tryz.ntmps19
      obtain ⟨x0, x1, x2, x3, x4, x5, x6, x7⟩ := HKA.out
      obtain ⟨y0, y1, y2, y3, y4, y5, y6, y7⟩ := HKB.out
      go_wp2_with fail
      refine (HSV.out _).mono ?_
      rintro _ w1 ⟨rfl, hb1⟩
      have HB1 := Lib.hid (bel2 HW.out hb1)
      have HX1 := Lib.hid (HKA.out.below hb1)
      have HY1 := Lib.hid (HKB.out.below hb1)
      clear x0 x1 x2 x3 x4 x5 x6 x7 y0 y1 y2 y3 y4 y5 y6 y7 hb1
      have p1 := HX1.out.2.1
      have q1 := HY1.out.2.1
      go_wp2
      go_loopw [5] (fun i wr => ∃ k : Nat, k ≤ ka.length ∧ i = .int .i64 k ∧ sameL (sameX d) (ka.drop k) (kb.drop k) = sameL (sameX d) ka kb ∧ Below w.heap.size w wr ∧ wr.cell? ⟨w.heap.size, 1, none⟩ = some (.slice A ka.length ca) ∧ wr.cell? ⟨w.heap.size + 1, 1, none⟩ = some (.slice B kb.length cb)) (fun i _ => ka.length - (intOf i).toNat)
      case atStart => exact ⟨0, Nat.zero_le _, rfl, rfl, HB1.out, p1, q1⟩
      case round =>
        clear p1 q1
        obtain ⟨k, hk, rfl, hrem, hbr, p1, q1⟩ := hrel
        have HREM := Lib.hid hrem
        have HBR := Lib.hid hbr
        clear hrem
        by_cases hlt : k < ka.length
        · have hltb : k < kb.length := by have := HL.out; omega
          obtain ⟨ad, A', ca', rfl, hbl, hkid, hsub⟩ := A5.out k hlt
          obtain ⟨bd, B', cb', rfl, hbl2, hkid2, hsub2⟩ := B5.out k hltb
          have hka := hkid.below hbr (by rw [block_add]; exact hbl)
          have hkb := hkid2.below hbr (by rw [block_add]; exact hbl2)
          have hcall := fun W (hB : Below wr.heap.size wr W) => HIH.out k hlt hltb A' B' ca' cb' W hsub hsub2 (bel2 hbr hB)
          have hdr := HDR.out k hlt hltb
          rw [HREM.out] at hdr
          generalize sameX d ka[k] kb[k] = sx at hcall hdr
          generalize ka[k].op = ko at hka hcall
          generalize ka[k].name = kn at hka hcall
          generalize ka[k].val = ky at hka hcall
          generalize ka[k].kids.length = kl at hka hcall
          generalize kb[k].op = mo at hkb hcall
          generalize kb[k].name = mn at hkb hcall
          generalize kb[k].val = my at hkb hcall
          generalize kb[k].kids.length = ml at hkb hcall
          have HC := Lib.hid hcall
          have hall : ∀ W, Below wr.heap.size wr W → Below wr.heap.size wr W ∧ W.cell? ⟨w.heap.size, 1, none⟩ = some (.slice (some ad) ka.length ca) ∧ W.cell? ⟨w.heap.size + 1, 1, none⟩ = some (.slice (some bd) kb.length cb) ∧ Kid W (ad.add (k * 8)) ko A' kl ca' kn ky ∧ Kid W (bd.add (k * 8)) mo B' ml cb' mn my := fun W hB =>
            ⟨hB, keepc hB (World.block_lt_of_cell? wr _ p1) p1, keepc hB (World.block_lt_of_cell? wr _ q1) q1, hka.below hB (World.block_lt_of_cell? wr _ hka.1), hkb.below hB (World.block_lt_of_cell? wr _ hkb.1)⟩
          unfold Kid at hall
          have HALL := Lib.hid hall
          have hltI : (k : Int) < (ka.length : Int) := by omega
          have hltJ : (k : Int) < (kb.length : Int) := by omega
          have HDK := Lib.hid hdr
          have HS0 := Lib.hid (HALL.out wr.drew (Below.refl _ _).drew)
          clear hcall hdr hkid hsub hkid2 hsub2 hka hkb hall hbr p1 q1
          have p1 := (HALL.out wr (Below.refl _ _)).2.1
          rcases sx with _ | _
          all_goals
            go_upto_region 6 with fail
            clear p1
            go_region_held3 (fun W => Below wr.heap.size wr W ∧ W.cell? ⟨w.heap.size, 1, none⟩ = some (.slice (some ad) ka.length ca) ∧ W.cell? ⟨w.heap.size + 1, 1, none⟩ = some (.slice (some bd) kb.length cb) ∧ (W.cell? (ad.add (k * 8)) = some (.int .i64 ko) ∧ W.cell? ⟨(ad.add (k * 8)).block, (ad.add (k * 8)).off + 1, none⟩ = some (.slice A' kl ca') ∧ W.cell? ⟨(ad.add (k * 8)).block, (ad.add (k * 8)).off + 2, none⟩ = some (.string kn) ∧ W.cell? ⟨(ad.add (k * 8)).block, (ad.add (k * 8)).off + 3, none⟩ = some (.int .i64 ky.k) ∧ W.cell? ⟨(ad.add (k * 8)).block, (ad.add (k * 8)).off + 4, none⟩ = some (.int .i64 ky.i) ∧ W.cell? ⟨(ad.add (k * 8)).block, (ad.add (k * 8)).off + 5, none⟩ = some (.bool ky.b) ∧ W.cell? ⟨(ad.add (k * 8)).block, (ad.add (k * 8)).off + 6, none⟩ = some (.string ky.s) ∧ W.cell? ⟨(ad.add (k * 8)).block, (ad.add (k * 8)).off + 7, none⟩ = some (.float .f64 ky.n)) ∧ (W.cell? (bd.add (k * 8)) = some (.int .i64 mo) ∧ W.cell? ⟨(bd.add (k * 8)).block, (bd.add (k * 8)).off + 1, none⟩ = some (.slice B' ml cb') ∧ W.cell? ⟨(bd.add (k * 8)).block, (bd.add (k * 8)).off + 2, none⟩ = some (.string mn) ∧ W.cell? ⟨(bd.add (k * 8)).block, (bd.add (k * 8)).off + 3, none⟩ = some (.int .i64 my.k) ∧ W.cell? ⟨(bd.add (k * 8)).block, (bd.add (k * 8)).off + 4, none⟩ = some (.int .i64 my.i) ∧ W.cell? ⟨(bd.add (k * 8)).block, (bd.add (k * 8)).off + 5, none⟩ = some (.bool my.b) ∧ W.cell? ⟨(bd.add (k * 8)).block, (bd.add (k * 8)).off + 6, none⟩ = some (.string my.s) ∧ W.cell? ⟨(bd.add (k * 8)).block, (bd.add (k * 8)).off + 7, none⟩ = some (.float .f64 my.n))) (first | exact HS0.out | exact HALL.out _ hbA2) (first | (go_at_call 19; refine (HC.out _ (Below.refl _ _).drew).mono ?_; rintro _ wA ⟨rfl, hbA⟩; have hbA2 := bel2 (Below.refl wr.heap.size wr).drew hbA))
          · go_wp2
            go_ret
            exact ⟨ret_bool (by have := HDK.out; simpa using this.symm), bel2 HBR.out hbA2⟩
          · obtain ⟨-, p1, q1, -⟩ := HALL.out _ hbA2
            go_wp2
            go_roundw
            case rel => exact ⟨k + 1, by omega, by go_num, by have := HDK.out; simpa using this.symm, bel2 HBR.out hbA2, p1, q1⟩
            case measure => simp [intOf]; omega
        · obtain rfl : k = ka.length := by omega
          have hend : sameL (sameX d) ka kb = true := by
            have h := HREM.out
            rw [List.drop_length, HL.out, List.drop_length] at h
            exact h.symm
          have HEND := Lib.hid hend
          clear hend
          go_wp2
          go_ret
          exact ⟨ret_bool HEND.out.symm, HBR.out⟩
    · have hlb : ((ka.length : Int) != (kb.length : Int)) = true := by simp; omega
      rw [HLEN.out hl]
      clear hl
      go_enter Tryz.func19, Tryz.ntmps19
      obtain ⟨x0, x1, x2, x3, x4, x5, x6, x7⟩ := HKA.out
      obtain ⟨y0, y1, y2, y3, y4, y5, y6, y7⟩ := HKB.out
      go_wp2_with fail
      refine (HSV.out _).mono ?_
      rintro _ w1 ⟨rfl, hb1⟩
      have HB1 := Lib.hid (bel2 HW.out hb1)
      have p1 := (HKA.out.below hb1).2.1
      have q1 := (HKB.out.below hb1).2.1
      clear x0 x1 x2 x3 x4 x5 x6 x7 y0 y1 y2 y3 y4 y5 y6 y7 hb1
      go_wp2
      go_ret
      exact ⟨rfl, HB1.out⟩
end Go.Proofs.YtkhpgejammgolaaGreat

/- Layer 5: a value or the zero one, by the program. -/
namespace Go.Proofs.YtkhpgejammgolaaGreat
open Go.RowKit
set_option linter.unusedVariables false
set_option linter.unusedSimpArgs false
set_option maxRecDepth 20000

/-- a reader is as it was where another one has gone on -/
theorem RdR.offS {w w' : World} {N g : Nat} {rest r2 : List UInt8} {e e2 : Int} (h : RdR w g rest e) (hp : RdR w N r2 e2) (ho : Only N w w') (hne : g ≠ N) : RdR w' g rest e := by
  obtain ⟨cs, hN, hy⟩ := hp.cells
  have hgl := h.lt
  obtain ⟨rv, hh, hb⟩ := h
  exact ⟨rv, (ho.block g hgl (by intro e; injection e with e; exact hne e)).trans hh, ⟨hb.1.offC ho hN hy, hb.2.offC ho (fun hl => hb.1.not_in hN hy hl)⟩⟩
/-- a reader copied -/
theorem RdR.copy {W : World} {A : Option Addr} {n c : Nat} {rest : List UInt8} {e : Int} (h : Bt W (.slice A n c) rest) (a : Nat) (ha : a = W.heap.size) : RdR (W.alloc (.cells #[.slice A n c, .int .i64 e] 83)) a rest e := by
  subst ha
  exact ⟨_, heap_alloc_new _ _, Bt.below h ((Below.refl _ _).alloc (Nat.le_refl _) _) (Nat.le_refl _)⟩
/-- .. and copied back -/
theorem RdR.back {W : World} {g : Nat} {rest r1 : List UInt8} {e e1 : Int} {v : Value} (h : RdR W g rest e) (hv : Bt W v r1) : RdR ((W.setCell ⟨g, 0, none⟩ v).setCell ⟨g, 1, none⟩ (.int .i64 e1)) g r1 e1 := (h.setRest v hv).setErr e1

set_option maxHeartbeats 2000000 in
theorem readVal_yes (g : Nat) (rest : List UInt8) (e : Int) (n : Nat) (r1 : List UInt8) (hst : stepF 8 alInt rest e = (n, r1, 0)) (hz : wrap64 (n : Int) = 0) (w : World) (hr : RdR w g rest e) :
    Calls Tryz.prog 94 #[.pointer (some ⟨g, 0, none⟩)] w (GetP g vZero 0 r1 0 w) := by
  obtain ⟨A, c, hbt, -, -, -, hc0, hc1, hf, hgl⟩ := hr.open
  have HW0 := Lib.hid (alloc1 w (.cells #[.int .i64 0, .int .i64 0, .bool false, .string ⟨#[]⟩, .float .f64 0] 25))
  have HN0 := Lib.hid (heap_alloc_new w (.cells #[.int .i64 0, .int .i64 0, .bool false, .string ⟨#[]⟩, .float .f64 0] 25))
  have HCP := Lib.hid (RdR.copy (W := w.alloc (.cells #[.int .i64 0, .int .i64 0, .bool false, .string ⟨#[]⟩, .float .f64 0] 25)) (e := e) (Bt.below hbt HW0.out (Nat.le_refl _)) (w.heap.size + 1) (by simp))
  have q1 : ∀ W, RdR W (w.heap.size + 1) rest e → Calls Tryz.prog 91 #[.pointer (some ⟨w.heap.size + 1, 0, none⟩)] W (Did (w.heap.size + 1) (.int .i64 0) r1 0 W) := fun W h => by
    have h := Int_any (w.heap.size + 1) rest e W h
    rw [hst, hz] at h
    exact h
  have Q1 := Lib.hid q1
  have HR := Lib.hid hr
  have HG := Lib.hid hgl
  have hne : g ≠ w.heap.size + 1 := by omega
  have hne2 : w.heap.size ≠ g := by omega
  clear hst hz hr hbt q1
  have h00 : ((0 : Int) != 0) = false := rfl
  have hsf := fun (w : World) (a : Addr) (m : Mode) (b : Nat) => run_store Tryz.prog w a (.float .f64 b) m rfl
  go_enter Tryz.func94, Tryz.ntmps94
  go_wp2_with fail
  refine (Q1.out _ HCP.out).mono ?_
  rintro _ wA ⟨rfl, hra, hoa⟩
  have HRG := Lib.hid (RdR.offS ((HR.out.below HW0.out).below (alloc1 _ _)) HCP.out hoa hne)
  have HA := Lib.hid hra
  have HOA := Lib.hid (hoa.to_below (B := w.heap.size + 1) (by simp) (Nat.le_refl _))
  clear hc0 hc1 hf hgl hra hoa
  go_wp2_with fail
  refine (Err_any (w.heap.size + 1) r1 0 wA HA.out).mono ?_
  rintro _ w' ⟨rfl, rfl⟩
  obtain ⟨A1, c1, hbt1, -, -, -, hd0, hd1, -, -⟩ := HA.out.open
  obtain ⟨A2, c2, -, -, -, -, hg0, hg1, hgf, hgl⟩ := HRG.out.open
  have hN := (HOA.out.block w.heap.size (by omega)).trans (((alloc1 _ _).block w.heap.size (by simp)).trans HN0.out)
  have HBN := Lib.hid hN
  have hsz : w.heap.size < wA.heap.size := (Array.getElem?_eq_some_iff.1 hN).1
  have hv0 := (cell_of_row wA w.heap.size 0 _ _ (0, 0) hN).trans rfl
  have hv1 := (cell_of_row wA w.heap.size 1 _ _ (0, 0) hN).trans rfl
  have hv2 := (cell_of_row wA w.heap.size 2 _ _ (0, 0) hN).trans rfl
  have hv3 := (cell_of_row wA w.heap.size 3 _ _ (0, 0) hN).trans rfl
  have hv4 := (cell_of_row wA w.heap.size 4 _ _ (0, 0) hN).trans rfl
  have hvf : ∀ j, wA.frozen? ⟨w.heap.size, j, none⟩ = false := fun j => by
    have h := HBN.out
    simp [World.frozen?, h]
  clear hN
  have HBT := Lib.hid hbt1
  have HOG := Lib.hid (HOA.out.mono (by omega : w.heap.size ≤ w.heap.size + 1))
  clear hbt1
  go_wp2
  refine bodyPost_ret (v := pairVE vZero 0) (by simp [results, Tryz.results94, go_sem, hv0, hv1, hv2, hv3, hv4, hsz, hne2]) rfl ?_
  refine GetP.mk rfl (HRG.out.back HBT.out) ?_ HG.out (by rw [Below.heap_setCell _ _ _ _ hne2, Below.heap_setCell _ _ _ _ hne2]; exact HBN.out) _ _ _ _ _
  exact (((Only.refl g w).below ((HW0.out.trans ((alloc1 _ _).mono (by simp))).trans HOG.out)).set _ _).set _ _
set_option maxHeartbeats 2000000 in
theorem readVal_no1 (g : Nat) (rest : List UInt8) (e : Int) (n : Nat) (r1 : List UInt8) (e1 : Int) (hst : stepF 8 alInt rest e = (n, r1, e1)) (hz : wrap64 (n : Int) ≠ 0) (v : Vl) (er : Int) (rest2 : List UInt8) (err : Int) (w : World) (hr : RdR w g rest e)
    (hq : ∀ W, RdR W g rest e → Calls Tryz.prog 153 #[.pointer (some ⟨g, 0, none⟩)] W (GetP g v er rest2 err W)) :
    Calls Tryz.prog 94 #[.pointer (some ⟨g, 0, none⟩)] w (GetP g v er rest2 err w) := by
  obtain ⟨A, c, hbt, -, -, -, hc0, hc1, hf, hgl⟩ := hr.open
  have HW0 := Lib.hid (alloc1 w (.cells #[.int .i64 0, .int .i64 0, .bool false, .string ⟨#[]⟩, .float .f64 0] 25))
  have HN0 := Lib.hid (heap_alloc_new w (.cells #[.int .i64 0, .int .i64 0, .bool false, .string ⟨#[]⟩, .float .f64 0] 25))
  have HCP := Lib.hid (RdR.copy (W := w.alloc (.cells #[.int .i64 0, .int .i64 0, .bool false, .string ⟨#[]⟩, .float .f64 0] 25)) (e := e) (Bt.below hbt HW0.out (Nat.le_refl _)) (w.heap.size + 1) (by simp))
  have q1 : ∀ W, RdR W (w.heap.size + 1) rest e → Calls Tryz.prog 91 #[.pointer (some ⟨w.heap.size + 1, 0, none⟩)] W (Did (w.heap.size + 1) (.int .i64 (wrap64 (n : Int))) r1 e1 W) := fun W h => by
    have h := Int_any (w.heap.size + 1) rest e W h
    rw [hst] at h
    exact h
  have hzb : (wrap64 (n : Int) != 0) = true := by simpa using hz
  clear hz
  have Q1 := Lib.hid q1
  have HQ := Lib.hid hq
  have HR := Lib.hid hr
  have HG := Lib.hid hgl
  have hne : g ≠ w.heap.size + 1 := by omega
  have hne2 : w.heap.size ≠ g := by omega
  clear hst hr hbt q1 hq
  have hsf := fun (w : World) (a : Addr) (m : Mode) (b : Nat) => run_store Tryz.prog w a (.float .f64 b) m rfl
  go_enter Tryz.func94, Tryz.ntmps94
  go_wp2_with fail
  refine (Q1.out _ HCP.out).mono ?_
  rintro _ wA ⟨rfl, hra, hoa⟩
  have HRG := Lib.hid (RdR.offS ((HR.out.below HW0.out).below (alloc1 _ _)) HCP.out hoa hne)
  have HA := Lib.hid hra
  have HOA := Lib.hid (hoa.to_below (B := w.heap.size + 1) (by simp) (Nat.le_refl _))
  clear hc0 hc1 hf hgl hra hoa
  have hN := (HOA.out.block w.heap.size (by omega)).trans (((alloc1 _ _).block w.heap.size (by simp)).trans HN0.out)
  have HBN := Lib.hid hN
  have HSZ := Lib.hid (Array.getElem?_eq_some_iff.1 hN).1
  have HOG := Lib.hid ((HW0.out.trans ((alloc1 _ _).mono (by simp))).trans (HOA.out.mono (by omega : w.heap.size ≤ w.heap.size + 1)))
  clear hN
  go_wp2_with fail
  refine (HQ.out _ HRG.out).mono ?_
  rintro _ wB ⟨rfl, hrb, hob⟩
  have hN := (hob.block w.heap.size HSZ.out (by intro e; injection e with e; exact hne2 e)).trans HBN.out
  have HBM := Lib.hid hN
  have hsz : w.heap.size < wB.heap.size := (Array.getElem?_eq_some_iff.1 hN).1
  have hv0 := (cell_of_row wB w.heap.size 0 _ _ (0, 0) hN).trans rfl
  have hv1 := (cell_of_row wB w.heap.size 1 _ _ (0, 0) hN).trans rfl
  have hv2 := (cell_of_row wB w.heap.size 2 _ _ (0, 0) hN).trans rfl
  have hv3 := (cell_of_row wB w.heap.size 3 _ _ (0, 0) hN).trans rfl
  have hv4 := (cell_of_row wB w.heap.size 4 _ _ (0, 0) hN).trans rfl
  have hvf : ∀ j, wB.frozen? ⟨w.heap.size, j, none⟩ = false := fun j => by
    have h := HBM.out
    simp [World.frozen?, h]
  have HRB := Lib.hid hrb
  have HOB := Lib.hid (Only.trans' HOG.out hob)
  clear hN hrb hob
  go_wp2
  exact bodyPost_ret (v := pairVE v er) (by simp [results, Tryz.results94, go_sem, hv0, hv1, hv2, hv3, hv4, hsz]) rfl (GetP.mk rfl HRB.out HOB.out HG.out HBM.out _ _ _ _ _)

set_option maxHeartbeats 2000000 in
theorem readVal_no2 (g : Nat) (rest : List UInt8) (e : Int) (n : Nat) (r1 : List UInt8) (e1 : Int) (hst : stepF 8 alInt rest e = (n, r1, e1)) (hz : wrap64 (n : Int) = 0) (he : e1 ≠ 0) (v : Vl) (er : Int) (rest2 : List UInt8) (err : Int) (w : World) (hr : RdR w g rest e)
    (hq : ∀ W, RdR W g rest e → Calls Tryz.prog 153 #[.pointer (some ⟨g, 0, none⟩)] W (GetP g v er rest2 err W)) :
    Calls Tryz.prog 94 #[.pointer (some ⟨g, 0, none⟩)] w (GetP g v er rest2 err w) := by
  obtain ⟨A, c, hbt, -, -, -, hc0, hc1, hf, hgl⟩ := hr.open
  have HW0 := Lib.hid (alloc1 w (.cells #[.int .i64 0, .int .i64 0, .bool false, .string ⟨#[]⟩, .float .f64 0] 25))
  have HN0 := Lib.hid (heap_alloc_new w (.cells #[.int .i64 0, .int .i64 0, .bool false, .string ⟨#[]⟩, .float .f64 0] 25))
  have HCP := Lib.hid (RdR.copy (W := w.alloc (.cells #[.int .i64 0, .int .i64 0, .bool false, .string ⟨#[]⟩, .float .f64 0] 25)) (e := e) (Bt.below hbt HW0.out (Nat.le_refl _)) (w.heap.size + 1) (by simp))
  have q1 : ∀ W, RdR W (w.heap.size + 1) rest e → Calls Tryz.prog 91 #[.pointer (some ⟨w.heap.size + 1, 0, none⟩)] W (Did (w.heap.size + 1) (.int .i64 (wrap64 (n : Int))) r1 e1 W) := fun W h => by
    have h := Int_any (w.heap.size + 1) rest e W h
    rw [hst] at h
    exact h
  have hzb : (wrap64 (n : Int) != 0) = false := by simpa using hz
  have heb : (e1 != 0) = true := by simpa using he
  clear hz he
  have Q1 := Lib.hid q1
  have HQ := Lib.hid hq
  have HR := Lib.hid hr
  have HG := Lib.hid hgl
  have hne : g ≠ w.heap.size + 1 := by omega
  have hne2 : w.heap.size ≠ g := by omega
  clear hst hr hbt q1 hq
  have hsf := fun (w : World) (a : Addr) (m : Mode) (b : Nat) => run_store Tryz.prog w a (.float .f64 b) m rfl
  go_enter Tryz.func94, Tryz.ntmps94
  go_wp2_with fail
  refine (Q1.out _ HCP.out).mono ?_
  rintro _ wA ⟨rfl, hra, hoa⟩
  have HRG := Lib.hid (RdR.offS ((HR.out.below HW0.out).below (alloc1 _ _)) HCP.out hoa hne)
  have HA := Lib.hid hra
  have HOA := Lib.hid (hoa.to_below (B := w.heap.size + 1) (by simp) (Nat.le_refl _))
  clear hc0 hc1 hf hgl hra hoa
  go_wp2_with fail
  refine (Err_any (w.heap.size + 1) r1 e1 wA HA.out).mono ?_
  rintro _ w' ⟨rfl, rfl⟩
  have hN := (HOA.out.block w.heap.size (by omega)).trans (((alloc1 _ _).block w.heap.size (by simp)).trans HN0.out)
  have HBN := Lib.hid hN
  have HSZ := Lib.hid (Array.getElem?_eq_some_iff.1 hN).1
  have HOG := Lib.hid ((HW0.out.trans ((alloc1 _ _).mono (by simp))).trans (HOA.out.mono (by omega : w.heap.size ≤ w.heap.size + 1)))
  clear hN
  go_wp2_with fail
  refine (HQ.out _ HRG.out).mono ?_
  rintro _ wB ⟨rfl, hrb, hob⟩
  have hN := (hob.block w.heap.size HSZ.out (by intro e; injection e with e; exact hne2 e)).trans HBN.out
  have HBM := Lib.hid hN
  have hsz : w.heap.size < wB.heap.size := (Array.getElem?_eq_some_iff.1 hN).1
  have hv0 := (cell_of_row wB w.heap.size 0 _ _ (0, 0) hN).trans rfl
  have hv1 := (cell_of_row wB w.heap.size 1 _ _ (0, 0) hN).trans rfl
  have hv2 := (cell_of_row wB w.heap.size 2 _ _ (0, 0) hN).trans rfl
  have hv3 := (cell_of_row wB w.heap.size 3 _ _ (0, 0) hN).trans rfl
  have hv4 := (cell_of_row wB w.heap.size 4 _ _ (0, 0) hN).trans rfl
  have hvf : ∀ j, wB.frozen? ⟨w.heap.size, j, none⟩ = false := fun j => by
    have h := HBM.out
    simp [World.frozen?, h]
  have HRB := Lib.hid hrb
  have HOB := Lib.hid (Only.trans' HOG.out hob)
  clear hN hrb hob
  go_wp2
  exact bodyPost_ret (v := pairVE v er) (by simp [results, Tryz.results94, go_sem, hv0, hv1, hv2, hv3, hv4, hsz]) rfl (GetP.mk rfl HRB.out HOB.out HG.out HBM.out _ _ _ _ _)

theorem rv_get (rest : List UInt8) (e : Int) (n : Nat) (r1 : List UInt8) (e1 : Int) (hst : stepF 8 alInt rest e = (n, r1, e1)) (h : ¬ (wrap64 (n : Int) = 0 ∧ e1 = 0)) : rvF rest e = (getV rest e, (readF rest e).2.1, getE rest e) := by
  by_cases he : e = 0
  · subst he
    rw [rvF_0]
    refine zeroF_no rest ?_
    rw [hst]
    exact h
  · rw [rvF_err rest e he]
    have h1 : stepF 8 alInt rest e = (0, rest, e) := by unfold stepF; rw [if_pos he]
    have h2 : readF rest e = (vZero, rest, e) := readF_0 h1 (by unfold wrap64; omega) (by unfold wrap64; omega) (by unfold wrap64; omega) (by unfold wrap64; omega)
    obtain ⟨a1, a2, a3, -⟩ := get_no h2 he
    rw [a1, a2, a3]
theorem rv_zero (rest : List UInt8) (e : Int) (n : Nat) (r1 : List UInt8) (hst : stepF 8 alInt rest e = (n, r1, 0)) (h : wrap64 (n : Int) = 0) : rvF rest e = (vZero, r1, 0) := by
  by_cases he : e = 0
  · subst he
    rw [rvF_0]
    have h3 := zeroF_yes rest (by rw [hst]; exact ⟨h, rfl⟩)
    rw [hst] at h3
    exact h3
  · have h1 : stepF 8 alInt rest e = (0, rest, e) := by unfold stepF; rw [if_pos he]
    rw [h1] at hst
    injection hst with h4 h5
    injection h5 with h5 h6
    exact absurd h6 he
theorem getE_no (rest : List UInt8) (e : Int) (h0 : ¬ (readF rest e).2.2 = 0) : getE rest e = (readF rest e).2.2 := if_neg h0
theorem getE_ok (rest : List UInt8) (e : Int) (h : getE rest e = 0) : (readF rest e).2.2 = 0 := by
  by_cases h0 : (readF rest e).2.2 = 0
  · exact h0
  · exact (getE_no rest e h0).symm.trans h
/-- what readVal leaves -/
def RvP (g : Nat) (v : Vl) (er : Int) (rest : List UInt8) (w : World) (e : Ending) (w' : World) : Prop := e = .returned (pairVE v er) ∧ (∃ r' e', RdR w' g r' e' ∧ (er = 0 → r' = rest ∧ e' = 0)) ∧ Only g w w'
theorem RvP.of {g : Nat} {q : Vl × List UInt8 × Int} {v : Vl} {er : Int} {rest : List UInt8} {w : World} {e : Ending} {w' : World} (hq : q = (v, rest, er)) (h : RvP g v er rest w e w') : RvP g q.1 q.2.2 q.2.1 w e w' := by
  subst hq
  exact h
theorem GetP.rv {g : Nat} {v : Vl} {er : Int} {rest : List UInt8} {err : Int} {w : World} {e : Ending} {w' : World} (h : GetP g v er rest err w e w') (hok : er = 0 → err = 0) : RvP g v er rest w e w' := ⟨h.1, ⟨_, _, h.2.1, fun h0 => ⟨rfl, hok h0⟩⟩, h.2.2⟩
theorem readVal_any (g : Nat) (rest : List UInt8) (e : Int) (w : World) (hr : RdR w g rest e) (hlen : rest.length ≤ 1000000000000) :
    Calls Tryz.prog 94 #[.pointer (some ⟨g, 0, none⟩)] w (RvP g (rvF rest e).1 (rvF rest e).2.2 (rvF rest e).2.1 w) := by
  have hq : ∀ W, RdR W g rest e → Calls Tryz.prog 153 #[.pointer (some ⟨g, 0, none⟩)] W (GetP g (getV rest e) (getE rest e) (readF rest e).2.1 (readF rest e).2.2 W) := fun W h => Get_any g rest e W h hlen
  have hok := getE_ok rest e
  rcases hst : stepF 8 alInt rest e with ⟨n, r1, e1⟩
  by_cases h : wrap64 (n : Int) = 0 ∧ e1 = 0
  · obtain ⟨h1, h2⟩ := h
    subst h2
    exact (readVal_yes g rest e n r1 hst h1 w hr).mono fun _ _ h => RvP.of (rv_zero rest e n r1 hst h1) (h.rv fun _ => rfl)
  · by_cases h1 : wrap64 (n : Int) = 0
    · exact (readVal_no2 g rest e n r1 e1 hst h1 (fun h2 => h ⟨h1, h2⟩) _ _ _ _ w hr hq).mono fun _ _ k => RvP.of (rv_get rest e n r1 e1 hst h) (k.rv hok)
    · exact (readVal_no1 g rest e n r1 e1 hst h1 _ _ _ _ w hr hq).mono fun _ _ k => RvP.of (rv_get rest e n r1 e1 hst h) (k.rv hok)
end Go.Proofs.YtkhpgejammgolaaGreat

/- Layer 5: what stands between the steps of reading an expression. -/
namespace Go.Proofs.YtkhpgejammgolaaGreat
open Go.RowKit
set_option linter.unusedVariables false
set_option linter.unusedSimpArgs false
set_option maxRecDepth 20000

/-- bytes stay where blocks of bytes stay -/
theorem Bt.keep {w w' : World} {v : Value} {l : List UInt8} (h : Bt w v l) (hz : w.heap.size ≤ w'.heap.size) (hk : ∀ (k : Nat) (cs : Array Value) (fr : Nat × Nat), w.heap[k]? = some (Obj.cells cs 5 fr) → w'.heap[k]? = w.heap[k]?) : Bt w' v l := by
  obtain ⟨⟨A, c, hv, hc, hm, hn, hx⟩, hy⟩ := h
  by_cases hl : l = []
  · subst hl
    exact ⟨⟨A, c, hv, hc, hm, hn, fun he => absurd rfl he⟩, fun he => absurd rfl he⟩
  · have hl' : l.map bc ≠ [] := by simpa using hl
    obtain ⟨ad, ha, hb, hr⟩ := hx hl'
    have hown : v.ownBlock = some ad.block := by rw [hv, ha]; rfl
    obtain ⟨cs2, fr2, hty⟩ := hy hl ad.block hown
    have hblk := hk _ _ _ hty
    refine ⟨⟨A, c, hv, hc, hm, hn, fun _ => ⟨ad, ha, Nat.lt_of_lt_of_le hb hz, fun j u hu => ?_⟩⟩, fun _ k hkk => ?_⟩
    · have hb2 : (ad.add j).block = ad.block := block_add ad j
      exact (World.cell?_of_block (w := w) (w' := w') (a := ad.add j) (by rw [hb2]; exact hblk)).trans (hr j u hu)
    · rw [hown] at hkk
      injection hkk with hkk
      subst hkk
      exact ⟨cs2, fr2, hblk.trans hty⟩
theorem RdR.keep {w w' : World} {g : Nat} {rest : List UInt8} {e : Int} (h : RdR w g rest e) (hz : w.heap.size ≤ w'.heap.size) (hg : w'.heap[g]? = w.heap[g]?) (hk : ∀ (k : Nat) (cs : Array Value) (fr : Nat × Nat), w.heap[k]? = some (Obj.cells cs 5 fr) → w'.heap[k]? = w.heap[k]?) : RdR w' g rest e := by
  obtain ⟨rv, hh, hb⟩ := h
  exact ⟨rv, hg.trans hh, hb.keep hz hk⟩
/-- a block of another type is another block -/
theorem other_block {w : World} {k N : Nat} {cs cs' : Array Value} {t t' : TypeId} {fr fr' : Nat × Nat} (hk : w.heap[k]? = some (.cells cs t fr)) (hN : w.heap[N]? = some (.cells cs' t' fr')) (ht : t ≠ t') : k ≠ N := by
  rintro rfl
  rw [hN] at hk
  injection hk with hk
  injection hk with h1 h2
  exact ht h2.symm
theorem RdR.offT {w w' : World} {N g : Nat} {rest : List UInt8} {err : Int} {cs : Array Value} {t : TypeId} {fr : Nat × Nat} (h : RdR w g rest err) (ho : Only N w w') (hne : g ≠ N) (hN : w.heap[N]? = some (.cells cs t fr)) (ht : t ≠ 5) : RdR w' g rest err := by
  have hlt := h.lt
  refine h.keep ho.size (ho.block g hlt (by intro e; injection e with e; exact hne e)) fun k cs2 fr2 hk => ho.block k (Array.getElem?_eq_some_iff.1 hk).1 (by intro e; injection e with e; exact other_block hk hN (fun e => ht e.symm) e)

/-- the count of parts, as a block -/
def SzB (w : World) (s : Nat) (n : Int) : Prop := w.heap[s]? = some (.cells #[.int .i64 n] 87 (0, 0))
theorem SzB.sz {w : World} {s : Nat} {n : Int} (h : SzB w s n) : Sz w s n := by
  unfold SzB at h
  exact ⟨(cell_of_row w s 0 _ _ (0, 0) h).trans rfl, by simp [World.frozen?, h], (Array.getElem?_eq_some_iff.1 h).1⟩
theorem SzB.lt {w : World} {s : Nat} {n : Int} (h : SzB w s n) : s < w.heap.size := (Array.getElem?_eq_some_iff.1 h).1
theorem SzB.at {w w' : World} {s : Nat} {n : Int} (h : SzB w s n) (hb : w'.heap[s]? = w.heap[s]?) : SzB w' s n := hb.trans h
theorem SzB.set {w : World} {s : Nat} {n : Int} (h : SzB w s n) (m : Int) : SzB (w.setCell ⟨s, 0, none⟩ (.int .i64 m)) s m := by
  unfold SzB at h ⊢
  simp [World.setCell, Array.getElem?_modify, h]
theorem SzB.only {w w' : World} {s g : Nat} {n : Int} (h : SzB w s n) (ho : Only g w w') (hne : s ≠ g) : SzB w' s n := h.at (ho.block s h.lt (by intro e; injection e with e; exact hne e))
theorem SzB.below {w w' : World} {s : Nat} {n : Int} (h : SzB w s n) (hb : Below w.heap.size w w') : SzB w' s n := h.at (hb.block s h.lt)
theorem grow_set (g : Nat) (n deep : Int) (w : World) (h : Sz w g n) (h0 : 0 ≤ n) (h1 : n ≤ 24) : Calls Tryz.prog 90 #[.pointer (some ⟨g, 0, none⟩), .int .i64 deep] w fun e w' => e = .returned (.bool (decide (n + 1 ≤ 24) && decide (deep ≤ 6))) ∧ w' = w.setCell ⟨g, 0, none⟩ (.int .i64 (n + 1)) := by
  have hw : IntKind.i64.wrap (n + 1) = n + 1 := by rw [IntKind.wrap_i64]; omega
  have HSET := Lib.hid (World.cell?_setCell_same w ⟨g, 0, none⟩ (.int .i64 (n + 1)) h.1)
  obtain ⟨hc, hf, hl⟩ := h
  by_cases hn : n + 1 ≤ 24
  · have hr : (decide (n + 1 ≤ 24) && decide (deep ≤ 6)) = decide (deep ≤ 6) := by simp [hn]
    rw [hr]
    go_enter Tryz.func90, Tryz.ntmps90
    go_wp2
    go_ret
    exact ⟨rfl, rfl⟩
  · have hr : (decide (n + 1 ≤ 24) && decide (deep ≤ 6)) = false := by simp; intro h; omega
    rw [hr]
    go_enter Tryz.func90, Tryz.ntmps90
    go_wp2
    go_ret
    exact ⟨rfl, rfl⟩

def z8 : Array Value := #[.int .i64 0, .slice none 0 0, .string ⟨#[]⟩, .int .i64 0, .int .i64 0, .bool false, .string ⟨#[]⟩, .float .f64 0]
/-- all eight cells of a block -/
abbrev set8 (W : World) (b : Nat) (u0 u1 u2 u3 u4 u5 u6 u7 : Value) : World :=
  (((((((W.setCell ⟨b, 0, none⟩ u0).setCell ⟨b, 1, none⟩ u1).setCell ⟨b, 2, none⟩ u2).setCell ⟨b, 3, none⟩ u3).setCell ⟨b, 4, none⟩ u4).setCell ⟨b, 5, none⟩ u5).setCell ⟨b, 6, none⟩ u6).setCell ⟨b, 7, none⟩ u7
theorem set8_only (W : World) (b : Nat) (u0 u1 u2 u3 u4 u5 u6 u7 : Value) : Only b W (set8 W b u0 u1 u2 u3 u4 u5 u6 u7) :=
  ((((((((Only.refl b W).set 0 u0).set 1 u1).set 2 u2).set 3 u3).set 4 u4).set 5 u5).set 6 u6).set 7 u7
theorem Twb.new {g s k : Nat} {a w w' : World} (h : Twb g s a w) (ho : Only k w w') (hk : a.heap.size ≤ k) : Twb g s a w' :=
  ⟨ho.os.trans h.os, ho.tape.trans h.tape, ho.output.trans h.output, Nat.le_trans h.size ho.size, fun m hm h1 h2 => (ho.block m (Nat.lt_of_lt_of_le hm h.size) (by intro e; injection e with e; omega)).trans (h.block m hm h1 h2)⟩
theorem heap_at {w : World} {b : Nat} {cs : Array Value} {t : TypeId} (h : w.heap[b]? = some (.cells cs t (0, 0))) (j : Nat) : w.cell? ⟨b, j, none⟩ = cs[j]? := cell_of_row w b j _ _ (0, 0) h
theorem heap_free {w : World} {b : Nat} {cs : Array Value} {t : TypeId} (h : w.heap[b]? = some (.cells cs t (0, 0))) (j : Nat) : w.frozen? ⟨b, j, none⟩ = false := by simp [World.frozen?, h]

/-- an expression that was not read -/
abbrev agZ : Value := .agg #[.int .i64 0, .slice none 0 0, .string ⟨#[]⟩, .int .i64 0, .int .i64 0, .bool false, .string ⟨#[]⟩, .float .f64 0]
def RpE (g s : Nat) (er : Int) (w : World) (e : Ending) (w' : World) : Prop := e = .returned (.tuple #[agZ, .int .i64 er]) ∧ (∃ r' e', RdR w' g r' e') ∧ Twb g s w w'
def RpO (g s d : Nat) (x : Ex × Int × List UInt8) (w : World) (e : Ending) (w' : World) : Prop :=
  ∃ A c, e = .returned (.tuple #[agX x.1.op A x.1.kids.length c x.1.name x.1.val, .int .i64 0]) ∧ ExS (fun b => w.heap.size ≤ b) w' d A c x.1 ∧ RdR w' g x.2.2 0 ∧ SzB w' s (24 - x.2.1) ∧ Twb g s w w'
/-- what readParts leaves -/
def RpP (g s d : Nat) (x : Except Int (Ex × Int × List UInt8)) (w : World) (e : Ending) (w' : World) : Prop := match x with
  | .error er => RpE g s er w e w'
  | .ok y => RpO g s d y w e w'
theorem RpE.mk {g s b6 : Nat} {er e' : Int} {r' : List UInt8} {w W : World} {cs : Array Value} (hr : RdR W g r' e') (ht : Twb g s w W) (hz : W.heap[b6]? = some (.cells cs 27 (0, 0))) (hb : w.heap.size ≤ b6) (hg : g ≠ b6) (u0 u1 u2 u3 u4 u5 u6 u7 : Value) :
    RpE g s er w (.returned (.tuple #[agZ, .int .i64 er])) (set8 W b6 u0 u1 u2 u3 u4 u5 u6 u7) :=
  ⟨rfl, ⟨_, _, hr.offT (set8_only _ _ _ _ _ _ _ _ _ _) hg hz (by decide)⟩, ht.new (set8_only _ _ _ _ _ _ _ _ _ _) hb⟩
theorem RpO.mk {g s d b6 c : Nat} {n : Int} {r : List UInt8} {x : Ex} {A : Option Addr} {w W : World} {cs : Array Value} (hx : ExS (fun b => b6 < b) W d A c x) (hr : RdR W g r 0) (hs : SzB W s (24 - n)) (ht : Twb g s w W) (hz : W.heap[b6]? = some (.cells cs 27 (0, 0))) (hb : w.heap.size ≤ b6) (hg : g ≠ b6) (hsb : s ≠ b6) (u0 u1 u2 u3 u4 u5 u6 u7 : Value) :
    RpO g s d (x, n, r) w (.returned (.tuple #[agX x.op A x.kids.length c x.name x.val, .int .i64 0])) (set8 W b6 u0 u1 u2 u3 u4 u5 u6 u7) := by
  have ho := set8_only W b6 u0 u1 u2 u3 u4 u5 u6 u7
  exact ⟨A, c, rfl, hx.move (fun b hb2 hl => ⟨ho.block b hl (by intro e; injection e with e; omega), by omega⟩) ho.size, hr.offT ho hg hz (by decide), hs.only ho hsb, ht.new ho hb⟩

/-- between the steps: the result's block is empty, the part at hand lies at b8 -/
structure Fr (w : World) (g s b6 b8 : Nat) (W : World) (cs : Array Value) : Prop where
  z : W.heap[b6]? = some (.cells z8 27 (0, 0))
  x : W.heap[b8]? = some (.cells cs 27 (0, 0))
  t : Twb g s w W
theorem Fr.two {w : World} {g s b6 b8 : Nat} {W W' : World} {cs : Array Value} (h : Fr w g s b6 b8 W cs) (k : Twb g s W W') (h1 : b6 ≠ g) (h2 : b6 ≠ s) (h3 : b8 ≠ g) (h4 : b8 ≠ s) : Fr w g s b6 b8 W' cs :=
  ⟨(k.block b6 (Array.getElem?_eq_some_iff.1 h.z).1 h1 h2).trans h.z, (k.block b8 (Array.getElem?_eq_some_iff.1 h.x).1 h3 h4).trans h.x, h.t.trans k⟩
theorem Fr.set {w : World} {g s b6 b8 : Nat} {W : World} {cs : Array Value} (h : Fr w g s b6 b8 W cs) (h68 : b6 ≠ b8) (hb : w.heap.size ≤ b8) (j : Nat) (u : Value) : Fr w g s b6 b8 (W.setCell ⟨b8, j, none⟩ u) (cs.setIfInBounds j u) := by
  refine ⟨(Below.heap_setCell W _ u b6 h68).trans h.z, ?_, h.t.setNew hb j u⟩
  have hx := h.x
  simp [World.setCell, Array.getElem?_modify, hx]

/-- append of rows of structs, as a step of the walk -/
theorem wpList_append_rows {P : Program} {w : World} {ops : Array Oper} {rest : List Oper} {o : Oper} {a : Act} {Q : Exit → Act → World → Prop} (hgd : o.guard = none) (s x : Operand) (t : TypeId)
    (ho : o.op = .call { callee := .builtin .append, args := #[s, x], argTypes := #[t, t] })
    (base : Nat) (e : TypeId) (i : TypeInfo) (z : Value) (size bytes : Nat) (ht : P.underlying t = some (.slice e)) (hi : P.info? e = some i) (hz : i.zero = some z)
    (hsize : i.size = size) (hby : i.bytes = bytes) (hzs : z.cells.size = size) (hpos : 0 < size)
    (v : Value) (n : Nat) (xs : List Value) (hs : a.eval s = v) (hown : w.ownsRow base e size v n xs)
    (y : Value) (m : Nat) (news : List Value) (hx : a.eval x = y) (hr : RowS w size y m news) (h1 : ∀ u ∈ news, u.oneCell' = true)
    (h63 : n + m ≤ maxLen) (hbytes : (n + m) * bytes ≤ 140737488355328) (hbase : base ≤ w.heap.size)
    (h : ∀ v' w', w'.ownsRow base e size v' (n + m) (xs ++ news) → w.grownBy w' v.ownBlock → (v'.ownBlock = v.ownBlock ∨ v'.ownBlock = some w.heap.size) → wpList P ops Q rest (a.put o.dst v') w') : wpList P ops Q (o :: rest) a w :=
  wpList_plain hgd fun K hK => by
    obtain ⟨v', w', hrun, h2, h3, h4⟩ := run_append_rows (P := P) base t o.type e i z size bytes ht hi hz hsize hby hzs hpos v n xs hown y m news hr h1 h63 hbytes hbase
    unfold Oper.wp execOp
    simp only [ho, resolve, invoke, builtin, Sem.run_bind, Sem.run_pure, Result.andThen_ok, List.map_toArray, List.map_cons, List.map_nil, hs, hx, hrun]
    exact hK _ _ (h v' w' h2 h3 h4)

/-- what holds ahead of each kid -/
structure RpI (F : Int → List UInt8 → Except Int (Ex × Int × List UInt8)) (w : World) (g s b6 b8 d c : Nat) (L : Except Int (List Ex × Int × List UInt8)) (op : Int) (nm : ByteArray) (v : Vl) (wr : World) (k : Nat) (qs : List Kx) (nk : Int) (rk : List UInt8) (row : Value) : Prop where
  pre : pre (qs.map Kx.e) (getL F (c - k) nk rk) = L
  n0 : 0 ≤ nk
  n1 : nk ≤ 24
  len : rk.length ≤ 1000000000000
  rd : RdR wr g rk 0
  sz : SzB wr s (24 - nk)
  fr : Fr w g s b6 b8 wr #[.int .i64 op, row, .string nm, .int .i64 v.k, .int .i64 v.i, .bool v.b, .string v.s, .float .f64 v.n]
  own : wr.ownsRow (b8 + 1) 27 8 row k (qs.flatMap Kx.cells)
  kids : ∀ q ∈ qs, ExS (fun b => b8 < b ∧ row.ownBlock ≠ some b) wr d q.A q.c q.e
theorem RpI.next {F : Int → List UInt8 → Except Int (Ex × Int × List UInt8)} {w : World} {g s b6 b8 d c : Nat} {L : Except Int (List Ex × Int × List UInt8)} {op : Int} {nm : ByteArray} {v : Vl} {wr w2 w4 : World} {k : Nat} {qs : List Kx} {nk n1 : Int} {rk r1 : List UInt8} {row row' : Value} {kid : Ex} {A : Option Addr} {cc : Nat} {o1 o2 : Obj}
    (h : RpI F w g s b6 b8 d c L op nm v wr k qs nk rk row) (hk : k < c) (hx : F nk rk = .ok (kid, n1, r1)) (hbd : 0 ≤ n1 ∧ n1 ≤ nk ∧ r1.length ≤ rk.length) (hgw : g < w.heap.size) (hsw : s < w.heap.size) (h6 : w.heap.size ≤ b6) (h68 : b6 < b8)
    (hex : ExS (fun b => wr.heap.size ≤ b) w2 d A cc kid) (hrd : RdR w2 g r1 0) (hsz : SzB w2 s (24 - n1)) (htw : Twb g s wr w2)
    (hown : w4.ownsRow (b8 + 1) 27 8 row' (k + 1) (qs.flatMap Kx.cells ++ (Kx.mk kid A cc).cells)) (hgr : ((w2.alloc o1).alloc o2).grownBy w4 row.ownBlock) (hrow : row'.ownBlock = row.ownBlock ∨ row'.ownBlock = some ((w2.alloc o1).alloc o2).heap.size) :
    RpI F w g s b6 b8 d c L op nm v (w4.setCell ⟨b8, 1, none⟩ row') (k + 1) (qs ++ [Kx.mk kid A cc]) n1 r1 row' := by
  obtain ⟨b0, b1, b2⟩ := hbd
  have hb8 : b8 < wr.heap.size := (Array.getElem?_eq_some_iff.1 h.fr.x).1
  have hb6 : b6 < wr.heap.size := (Array.getElem?_eq_some_iff.1 h.fr.z).1
  have hz2 := htw.size
  have hz3 : ((w2.alloc o1).alloc o2).heap.size = w2.heap.size + 2 := by simp
  have hz4 := hgr.size
  have hrow0 := h.own.lt
  -- a block that is none of those that were written
  have hkeep : ∀ b, b < w2.heap.size → b ≠ b8 → row.ownBlock ≠ some b → (w4.setCell ⟨b8, 1, none⟩ row').heap[b]? = w2.heap[b]? := fun b h1 h2 h3 => by
    rw [Below.heap_setCell w4 _ _ b h2, hgr.block b (by omega) (fun e => h3 e.symm)]
    exact ((alloc1 (w2.alloc o1) o2).block b (by simp; omega)).trans ((alloc1 w2 o1).block b h1)
  have hsz5 : (w4.setCell ⟨b8, 1, none⟩ row').heap.size = w4.heap.size := by simp [World.setCell]
  have h8own : row.ownBlock ≠ some b8 := fun e => by have := (hrow0 b8 e).1; omega
  have hkx : w2.heap[b8]? = some (.cells #[.int .i64 op, row, .string nm, .int .i64 v.k, .int .i64 v.i, .bool v.b, .string v.s, .float .f64 v.n] 27 (0, 0)) := (htw.block b8 hb8 (by omega) (by omega)).trans h.fr.x
  have hlow : ∀ b, b < b8 → row.ownBlock ≠ some b := fun b hb e => by have := (hrow0 b e).1; omega
  have hrowT : ∀ (b : Nat) (cs : Array Value) (fr : Nat × Nat), w2.heap[b]? = some (Obj.cells cs 5 fr) → row.ownBlock ≠ some b := fun b cs fr hb e => by
    rcases h.own.2 with ⟨rfl, -⟩ | ⟨g', cap, cur, rfl, hbase, hg', -⟩
    · cases e
    · injection e with e
      have e : g' = b := e
      subst e
      have h5 := (htw.block g' (Array.getElem?_eq_some_iff.1 hg').1 (by omega) (by omega)).trans hg'
      exact other_block hb h5 (by decide) rfl
  refine ⟨?_, b0, by have := h.n1; omega, by have := h.len; omega, ?_, ?_, ⟨?_, ?_, ?_⟩, ?_, ?_⟩
  · rw [List.map_append, List.map_cons, List.map_nil, ← h.pre, show c - k = c - (k + 1) + 1 by omega]
    exact (pre_ok hx).symm
  · exact hrd.keep (by rw [hsz5]; omega) (hkeep g (by omega) (by omega) (hlow g (by omega))) fun b cs fr hb => hkeep b (Array.getElem?_eq_some_iff.1 hb).1 (other_block hb hkx (by decide)) (hrowT b cs fr hb)
  · exact hsz.at (hkeep s (by omega) (by omega) (hlow s (by omega)))
  · exact (hkeep b6 (by omega) (by omega) (hlow b6 h68)).trans ((htw.block b6 hb6 (by omega) (by omega)).trans h.fr.z)
  · have h5 : w4.heap[b8]? = w2.heap[b8]? := (hgr.block b8 (by omega) (fun e => h8own e.symm)).trans (((alloc1 (w2.alloc o1) o2).block b8 (by simp; omega)).trans ((alloc1 w2 o1).block b8 (by omega)))
    rw [hkx] at h5
    simp [World.setCell, Array.getElem?_modify, h5]
  · have hwz := h.fr.t.size
    refine ⟨?_, ?_, ?_, by rw [hsz5]; omega, fun m hm m1 m2 => ?_⟩
    · exact hgr.os.trans (htw.os.trans h.fr.t.os)
    · exact hgr.tape.trans (htw.tape.trans h.fr.t.tape)
    · exact hgr.output.trans (htw.output.trans h.fr.t.output)
    · exact (hkeep m (by omega) (by omega) (hlow m (by omega))).trans ((htw.block m (by omega) m1 m2).trans (h.fr.t.block m hm m1 m2))
  · rw [List.flatMap_append, List.flatMap_cons, List.flatMap_nil, List.append_nil]
    exact ownsRow_setCell_below hown (a := ⟨b8, 1, none⟩) (Nat.lt_succ_self b8) row'
  · intro q hq
    rcases List.mem_append.1 hq with hq | hq
    · refine (h.kids q hq).move (fun b hb hl => ?_) (by rw [hsz5]; omega)
      refine ⟨(hkeep b (by omega) (by omega) hb.2).trans (htw.block b hl (by omega) (by omega)), hb.1, ?_⟩
      rcases hrow with e | e
      · rw [e]; exact hb.2
      · rw [e]; intro e2; injection e2 with e2; omega
    · rw [List.mem_singleton.1 hq]
      refine hex.move (fun b hb hl => ?_) (by rw [hsz5]; omega)
      have hne : row.ownBlock ≠ some b := fun e => by have := (hrow0 b e).2; omega
      refine ⟨hkeep b hl (by omega) hne, by omega, ?_⟩
      rcases hrow with e | e
      · rw [e]; exact hne
      · rw [e]; intro e2; injection e2 with e2; omega
end Go.Proofs.YtkhpgejammgolaaGreat

/- Layer 5: reading an expression, by the program. -/
namespace Go.Proofs.YtkhpgejammgolaaGreat
open Go.RowKit
set_option linter.unusedVariables false
set_option linter.unusedSimpArgs false
set_option maxRecDepth 20000

theorem exprinfo : (Tryz.prog.info? 27).map (fun i => (i.zero, i.size, i.bytes)) = some (some agZ, 8, 96) := by kernel_rfl
theorem infoZ {P : Program} {e : TypeId} {z : Value} {s b : Nat} (h : (P.info? e).map (fun i => (i.zero, i.size, i.bytes)) = some (some z, s, b)) : ∃ i, P.info? e = some i ∧ i.zero = some z ∧ i.size = s ∧ i.bytes = b := by
  obtain ⟨i, hi, hzz⟩ := Option.map_eq_some_iff.1 h
  simp only [Prod.mk.injEq] at hzz
  exact ⟨i, hi, hzz.1, hzz.2.1, hzz.2.2⟩
theorem step4_le (al : Int → Int) (rest : List UInt8) (e : Int) : (stepF 4 al rest e).1 ≤ 4294967295 := by
  have h := wordN_lt4 (rest.take 4) (by rw [List.length_take]; omega)
  unfold stepF
  split
  · omega
  split
  · omega
  split
  · omega
  · exact h
/-- where there is no room -/
theorem getX_none {d : Nat} {n : Int} (h : d = 0 ∨ n < 1) (rest : List UInt8) : getX d n rest = .error 51 := by
  cases d with
  | zero => rfl
  | succ d =>
    rcases h with h | h
    · cases h
    · show getXH headX (d + 1) n rest = _
      rw [getXH, if_pos h]
set_option maxHeartbeats 4000000 in
theorem readParts_none (g s : Nat) (d : Nat) (n deep : Int) (rest : List UInt8) (w : World) (hgs : g ≠ s) (hd : d ≤ 6) (hdeep : deep = 7 - d) (h0 : 0 ≤ n) (h1 : n ≤ 24) (hr : RdR w g rest 0) (hs : SzB w s (24 - n)) (hbad : d = 0 ∨ n < 1) :
    Calls Tryz.prog 44 #[.pointer (some ⟨g, 0, none⟩), .pointer (some ⟨s, 0, none⟩), .int .i64 deep] w (RpE g s 51 w) := by
  have hz := hs.below (alloc1 w (.cells z8 27))
  have hgr := grow_set s (24 - n) deep _ hz.sz (by omega) (by omega)
  have hres : (decide (24 - n + 1 ≤ 24) && decide (deep ≤ 6)) = false := by
    rcases hbad with h | h
    · subst h; simp; omega
    · simp; omega
  rw [hres] at hgr
  have hgl := hr.lt
  have hsl := hs.lt
  have hX := heap_alloc_new w (.cells z8 27)
  have hset := hz.set (24 - n + 1)
  have hon : Only s (w.alloc (.cells z8 27)) ((w.alloc (.cells z8 27)).setCell ⟨s, 0, none⟩ (.int .i64 (24 - n + 1))) := (Only.refl _ _).set _ _
  have hrd : RdR ((w.alloc (.cells z8 27)).setCell ⟨s, 0, none⟩ (.int .i64 (24 - n + 1))) g rest 0 := (hr.below (alloc1 w (.cells z8 27))).offT hon hgs hz (by decide)
  have hX2 := (hon.block w.heap.size (by simp) (by intro e; injection e with e; omega)).trans hX
  have ht : Twb g s w ((w.alloc (.cells z8 27)).setCell ⟨s, 0, none⟩ (.int .i64 (24 - n + 1))) := (Below.two (alloc1 w (.cells z8 27)) g s).trans (hon.two' g)
  have hgb : g ≠ w.heap.size := by omega
  have HGR := Lib.hid hgr
  generalize (w.alloc (.cells z8 27)).setCell ⟨s, 0, none⟩ (.int .i64 (24 - n + 1)) = w2 at *
  have HRD := Lib.hid hrd
  have HT := Lib.hid ht
  have HX := Lib.hid hX2
  have hsz : w.heap.size < w2.heap.size := (Array.getElem?_eq_some_iff.1 hX2).1
  have hv0 := (heap_at hX2 0).trans (rfl : _ = some (Value.int .i64 0))
  have hv1 := (heap_at hX2 1).trans (rfl : _ = some (Value.slice none 0 0))
  have hv2 := (heap_at hX2 2).trans (rfl : _ = some (Value.string ⟨#[]⟩))
  have hv3 := (heap_at hX2 3).trans (rfl : _ = some (Value.int .i64 0))
  have hv4 := (heap_at hX2 4).trans (rfl : _ = some (Value.int .i64 0))
  have hv5 := (heap_at hX2 5).trans (rfl : _ = some (Value.bool false))
  have hv6 := (heap_at hX2 6).trans (rfl : _ = some (Value.string ⟨#[]⟩))
  have hv7 := (heap_at hX2 7).trans (rfl : _ = some (Value.float .f64 0))
  have hvf := heap_free hX2
  clear hr hs hgr hres hbad hz hset hon hrd hX hX2 ht hdeep hd h0 h1 hgl hsl
  have hsf := fun (w : World) (a : Addr) (m : Mode) (b : Nat) => run_store Tryz.prog w a (.float .f64 b) m rfl
  go_enter Tryz.func44, Tryz.ntmps44
  go_wp2_with fail
  refine HGR.out.mono ?_
  rintro _ w' ⟨rfl, rfl⟩
  go_wp2
  exact bodyPost_ret (v := .tuple #[agZ, .int .i64 51]) (by simp [results, Tryz.results44, go_sem, hv0, hv1, hv2, hv3, hv4, hv5, hv6, hv7, hsz]) rfl (RpE.mk HRD.out HT.out HX.out (Nat.le_refl _) hgb _ _ _ _ _ _ _ _)

theorem stepF_sticky {k : Nat} {al : Int → Int} {rest r1 : List UInt8} {e : Int} {n : Nat} (h : stepF k al rest e = (n, r1, 0)) : e = 0 := by
  by_cases he : e = 0
  · exact he
  · have h1 : stepF k al rest e = (0, rest, e) := by unfold stepF; rw [if_pos he]
    rw [h1] at h
    injection h with h2 h3
    injection h3 with h3 h4
theorem bytesF_sticky {most : Int} {rest r1 m : List UInt8} {e : Int} (h : bytesF most rest e = (m, r1, 0)) : e = 0 := by
  by_cases he : e = 0
  · exact he
  · have h1 : stepF 4 (alBytes most rest) rest e = (0, rest, e) := by unfold stepF; rw [if_pos he]
    unfold bytesF at h
    rw [h1, if_pos rfl] at h
    injection h with h2 h3
    injection h3 with h3 h4
theorem getX_head_err {d : Nat} {n : Int} {rest r1 r2 r3 r4 m : List UInt8} {o c : Nat} {e1 e2 e3 er : Int} {v : Vl} (hn : ¬ n < 1) (h1 : stepF 8 alInt rest 0 = (o, r1, e1)) (h2 : stepF 4 (alCount 3) r1 e1 = (c, r2, e2)) (h3 : bytesF 16 r2 e2 = (m, r3, e3)) (h4 : rvF r3 e3 = (v, r4, er)) (h : er ≠ 0) : getX (d + 1) n rest = .error er := by
  have hh : headX rest = .error er := by
    by_cases he : e3 = 0
    · subst he
      rw [rvF_0] at h4
      exact headX_no2 h1 h2 h3 h4 h
    · rw [rvF_err _ _ he] at h4
      injection h4 with h5 h6
      injection h6 with h6 h7
      subst h7
      exact headX_no1 h1 h2 h3 he
  show getXH headX (d + 1) n rest = _
  rw [getXH, if_neg hn, hh]
theorem getX_head_ok {d : Nat} {n : Int} {rest r1 r2 r3 r4 m : List UInt8} {o c : Nat} {e1 e2 e3 : Int} {v : Vl} (hn : ¬ n < 1) (h1 : stepF 8 alInt rest 0 = (o, r1, e1)) (h2 : stepF 4 (alCount 3) r1 e1 = (c, r2, e2)) (h3 : bytesF 16 r2 e2 = (m, r3, e3)) (h4 : rvF r3 e3 = (v, r4, 0)) :
    (∀ e, getL (getX d) c (n - 1) r4 = .error e → getX (d + 1) n rest = .error e) ∧ (∀ ks n' r, getL (getX d) c (n - 1) r4 = .ok (ks, n', r) → getX (d + 1) n rest = .ok (.mk (wrap64 (o : Int)) (strB m) v ks, n', r)) := by
  have he : e3 = 0 := by
    by_cases he : e3 = 0
    · exact he
    · rw [rvF_err _ _ he] at h4
      injection h4 with h5 h6
      injection h6 with h6 h7
  subst he
  have he2 := bytesF_sticky h3
  subst he2
  have he1 := stepF_sticky h2
  subst he1
  rw [rvF_0] at h4
  have hh := headX_ok h1 h2 h3 h4
  refine ⟨fun e h => ?_, fun ks n' r h => ?_⟩
  · show getXH headX (d + 1) n rest = _
    rw [getXH, if_neg hn, hh]
    dsimp only
    rw [show getL (getXH headX d) c (n - 1) r4 = .error e from h]
  · exact getX_ok hn hh h

theorem own_twb {w w' : World} {g s base e sz n : Nat} {v : Value} {xs : List Value} (h : w.ownsRow base e sz v n xs) (ht : Twb g s w w') (hg : g < base) (hs : s < base) : w'.ownsRow base e sz v n xs := by
  have hl := h.lt
  obtain ⟨h1, h2⟩ := h
  refine ⟨h1, ?_⟩
  rcases h2 with h2 | ⟨gb, cap, cur, e1, e2, e3, e4⟩
  · exact .inl h2
  · exact .inr ⟨gb, cap, cur, e1, e2, (ht.block gb (Array.getElem?_eq_some_iff.1 e3).1 (by omega) (by omega)).trans e3, e4⟩
theorem own_sliceX {w : World} {base e sz n : Nat} {v : Value} {xs : List Value} (h : w.ownsRow base e sz v n xs) : ∃ A c, v = .slice A n c := by
  rcases h.2 with ⟨rfl, h0⟩ | ⟨gb, cap, cur, e1, -⟩
  · have hn := h.1
    exact ⟨none, 0, by rw [h0]⟩
  · exact ⟨_, _, e1⟩
set_option maxHeartbeats 8000000 in
theorem readParts_walk (g s : Nat) (d : Nat) (n deep e0 : Int) (rest : List UInt8) (w : World) (hgs : g ≠ s) (hd : d + 1 ≤ 6) (hdeep : deep = 7 - ((d + 1 : Nat) : Int)) (h0 : 1 ≤ n) (h1 : n ≤ 24) (hr : RdR w g rest e0) (hs : SzB w s (24 - n)) (F : Int → List UInt8 → Except Int (Ex × Int × List UInt8)) (hbd : ∀ n r k n' r', 0 ≤ n → F n r = .ok (k, n', r') → 0 ≤ n' ∧ n' ≤ n ∧ r'.length ≤ r.length) (hfe : ∀ n r e, F n r = .error e → e ≠ 0) (X : Except Int (Ex × Int × List UInt8)) (op : Int) (c : Nat) (m : List UInt8) (v : Vl) (er e1 e2 e3 : Int) (r1 r2 r3 r4 : List UInt8)
    (ih : ∀ n rest w, 0 ≤ n → n ≤ 24 → RdR w g rest 0 → SzB w s (24 - n) → rest.length ≤ 1000000000000 → Calls Tryz.prog 44 #[.pointer (some ⟨g, 0, none⟩), .pointer (some ⟨s, 0, none⟩), .int .i64 (deep + 1)] w (RpP g s d (F n rest) w))
    (q1 : ∀ W, RdR W g rest e0 → Calls Tryz.prog 91 #[.pointer (some ⟨g, 0, none⟩)] W (Did g (.int .i64 op) r1 e1 W))
    (q2 : ∀ W, RdR W g r1 e1 → Calls Tryz.prog 92 #[.pointer (some ⟨g, 0, none⟩), .int .i64 3] W (Did g (.int .i64 c) r2 e2 W)) (hc4 : c ≤ 4294967295)
    (q3 : ∀ W, RdR W g r2 e2 → Calls Tryz.prog 93 #[.pointer (some ⟨g, 0, none⟩), .int .i64 16] W (DidB g m r3 e3 W))
    (q4 : ∀ W, RdR W g r3 e3 → Calls Tryz.prog 94 #[.pointer (some ⟨g, 0, none⟩)] W (RvP g v er r4 W)) (hlen4 : r4.length ≤ 1000000000000)
    (herr0 : er ≠ 0 → X = .error er) (hok0 : er = 0 → (∀ e, getL F c (n - 1) r4 = .error e → X = .error e) ∧ (∀ ks n' r, getL F c (n - 1) r4 = .ok (ks, n', r) → X = .ok (.mk op (strB m) v ks, n', r))) :
    Calls Tryz.prog 44 #[.pointer (some ⟨g, 0, none⟩), .pointer (some ⟨s, 0, none⟩), .int .i64 deep] w (RpP g s (d + 1) X w) := by
  have hz := hs.below (alloc1 w (.cells z8 27))
  have hgr := grow_set s (24 - n) deep _ hz.sz (by omega) (by omega)
  have hres : (decide (24 - n + 1 ≤ 24) && decide (deep ≤ 6)) = true := by
    simp; omega
  rw [hres] at hgr
  have hgl := hr.lt
  have hsl := hs.lt
  have hX := heap_alloc_new w (.cells z8 27)
  have hset := hz.set (24 - n + 1)
  have hon : Only s (w.alloc (.cells z8 27)) ((w.alloc (.cells z8 27)).setCell ⟨s, 0, none⟩ (.int .i64 (24 - n + 1))) := (Only.refl _ _).set _ _
  have hrd : RdR ((w.alloc (.cells z8 27)).setCell ⟨s, 0, none⟩ (.int .i64 (24 - n + 1))) g rest e0 := (hr.below (alloc1 w (.cells z8 27))).offT hon hgs hz (by decide)
  have hX2 := (hon.block w.heap.size (by simp) (by intro e; injection e with e; omega)).trans hX
  have ht : Twb g s w ((w.alloc (.cells z8 27)).setCell ⟨s, 0, none⟩ (.int .i64 (24 - n + 1))) := (Below.two (alloc1 w (.cells z8 27)) g s).trans (hon.two' g)
  have HGR := Lib.hid hgr
  generalize (w.alloc (.cells z8 27)).setCell ⟨s, 0, none⟩ (.int .i64 (24 - n + 1)) = w2 at *
  have hgb : g ≠ w.heap.size := by omega
  have hsb : s ≠ w.heap.size := by omega
  have herr := Lib.hid herr0
  have HOK := Lib.hid hok0
  have HBD := Lib.hid hbd
  have HFE := Lib.hid hfe
  clear herr0 hok0 hbd hfe hgr hX hres
  have Q1 := Lib.hid q1
  have Q2 := Lib.hid q2
  have Q3 := Lib.hid q3
  have Q4 := Lib.hid q4
  have IH := Lib.hid ih
  have HR2 := Lib.hid hrd
  have HS2 := Lib.hid (show SzB w2 s (24 - (n - 1)) from by rw [show 24 - (n - 1) = 24 - n + 1 by omega]; exact hset)
  have HT2 := Lib.hid ht
  have HX2 := Lib.hid hX2
  have HGL := Lib.hid hgl
  have HSL := Lib.hid hsl
  have H01 := Lib.hid (And.intro h0 h1)
  have H4 := Lib.hid hlen4
  have HD := Lib.hid (And.intro hd hdeep)
  have HC4 := Lib.hid hc4
  have hwd : IntKind.i64.wrap (deep + 1) = deep + 1 := by rw [IntKind.wrap_i64]; omega
  clear q1 q2 q3 q4 ih hrd hset ht hX2 hz hr hs hon h0 h1 hlen4 hd hdeep hc4
  have hsf := fun (w : World) (a : Addr) (m : Mode) (b : Nat) => run_store Tryz.prog w a (.float .f64 b) m rfl
  go_enter Tryz.func44, Tryz.ntmps44
  go_wp2_with fail
  refine HGR.out.mono ?_
  rintro _ w' ⟨rfl, rfl⟩
  clear HGR
  go_wp2_with fail
  refine (Q1.out _ HR2.out).mono ?_
  rintro _ w3 ⟨rfl, hr3, ho3⟩
  have hX3 := heap_alloc_new w3 (.cells #[.int .i64 op, .slice none 0 0, .string ⟨#[]⟩, .int .i64 0, .int .i64 0, .bool false, .string ⟨#[]⟩, .float .f64 0] 27)
  have hfr4 : Fr w g s w.heap.size w3.heap.size (w3.alloc (.cells #[.int .i64 op, .slice none 0 0, .string ⟨#[]⟩, .int .i64 0, .int .i64 0, .bool false, .string ⟨#[]⟩, .float .f64 0] 27)) #[.int .i64 op, .slice none 0 0, .string ⟨#[]⟩, .int .i64 0, .int .i64 0, .bool false, .string ⟨#[]⟩, .float .f64 0] := by
    have hz3 : w.heap.size < w3.heap.size := Nat.lt_of_lt_of_le (Array.getElem?_eq_some_iff.1 HX2.out).1 ho3.size
    refine ⟨?_, hX3, (HT2.out.trans (ho3.two s)).trans (Below.two (alloc1 _ _) g s)⟩
    exact ((alloc1 _ _).block w.heap.size hz3).trans ((ho3.block w.heap.size (Array.getElem?_eq_some_iff.1 HX2.out).1 (by intro e; injection e with e; exact hgb e.symm)).trans HX2.out)
  have hr4 := hr3.below (alloc1 w3 (.cells #[.int .i64 op, .slice none 0 0, .string ⟨#[]⟩, .int .i64 0, .int .i64 0, .bool false, .string ⟨#[]⟩, .float .f64 0] 27))
  have hs4 := (HS2.out.only ho3 (fun e => hgs e.symm)).below (alloc1 w3 (.cells #[.int .i64 op, .slice none 0 0, .string ⟨#[]⟩, .int .i64 0, .int .i64 0, .bool false, .string ⟨#[]⟩, .float .f64 0] 27))
  have h68 : w.heap.size < w3.heap.size := Nat.lt_of_lt_of_le (Array.getElem?_eq_some_iff.1 HX2.out).1 ho3.size
  go_upto_region 4 with fail
  generalize w3.alloc (.cells #[.int .i64 op, .slice none 0 0, .string ⟨#[]⟩, .int .i64 0, .int .i64 0, .bool false, .string ⟨#[]⟩, .float .f64 0] 27) = w4 at *
  generalize w3.heap.size = b8 at *
  have FR4 := Lib.hid hfr4
  have HR4 := Lib.hid hr4
  have HS4 := Lib.hid hs4
  have H68 := Lib.hid h68
  have hg8 : g ≠ b8 := by have := HGL.out; omega
  have hs8 : s ≠ b8 := by have := HSL.out; omega
  clear hfr4 hr4 hs4 hX3 hr3 ho3 h68 HR2 HS2 HT2 HX2
  go_wp2_with fail
  refine (Q2.out _ HR4.out).mono ?_
  rintro _ w5 ⟨rfl, hr5, ho5⟩
  have FR5 := Lib.hid (FR4.out.two (ho5.two s) hgb.symm hsb.symm hg8.symm hs8.symm)
  have HS5 := Lib.hid (HS4.out.only ho5 hgs.symm)
  have HR5 := Lib.hid hr5
  clear hr5 ho5 FR4 HS4 HR4
  go_wp2_with fail
  refine (Q3.out _ HR5.out).mono ?_
  rintro _ w6 ⟨u6, rfl, hu6, hr6, ho6⟩
  have hcv : (convert 28 9 u6).run Tryz.prog w6 = .ok (.string (strB m)) w6 := run_str hu6
  have FR6 := Lib.hid (FR5.out.two (ho6.two s) hgb.symm hsb.symm hg8.symm hs8.symm)
  have HS6 := Lib.hid (HS5.out.only ho6 hgs.symm)
  have HR6 := Lib.hid hr6
  have x2 := (heap_at FR6.out.x 2).trans (rfl : _ = some (Value.string ⟨#[]⟩))
  have xf := heap_free FR6.out.x
  have xl : b8 < w6.heap.size := (Array.getElem?_eq_some_iff.1 FR6.out.x).1
  clear hr6 ho6 FR5 HS5 HR5 hu6
  go_upto_region 6 with fail
  have hfr7 : Fr w g s w.heap.size b8 (w6.setCell ⟨b8, 2, none⟩ (.string (strB m))) #[.int .i64 op, .slice none 0 0, .string (strB m), .int .i64 0, .int .i64 0, .bool false, .string ⟨#[]⟩, .float .f64 0] := FR6.out.set (Nat.ne_of_lt H68.out) (Nat.le_of_lt H68.out) 2 _
  have ho7 : Only b8 w6 (w6.setCell ⟨b8, 2, none⟩ (.string (strB m))) := (Only.refl _ _).set _ _
  have HR7 := Lib.hid (HR6.out.offT ho7 hg8 FR6.out.x (by decide))
  have HS7 := Lib.hid (HS6.out.only ho7 hs8)
  have FR7 := Lib.hid hfr7
  generalize w6.setCell ⟨b8, 2, none⟩ (.string (strB m)) = w7 at *
  clear hfr7 ho7 x2 xf xl hcv FR6 HS6 HR6
  go_wp2_with fail
  refine (Q4.out _ HR7.out).mono ?_
  rintro _ w8 ⟨rfl, ⟨r8, e8, hr8, he8⟩, ho8⟩
  have FR8 := FR7.out.two (ho8.two s) hgb.symm hsb.symm hg8.symm hs8.symm
  have hvb := Bx.new w8 v
  have FR9 := Lib.hid (FR8.two (Below.two (alloc1 w8 (.cells #[.int .i64 v.k, .int .i64 v.i, .bool v.b, .string v.s, .float .f64 v.n] 25)) g s) hgb.symm hsb.symm hg8.symm hs8.symm)
  have HR9 := Lib.hid (hr8.below (alloc1 w8 (.cells #[.int .i64 v.k, .int .i64 v.i, .bool v.b, .string v.s, .float .f64 v.n] 25)))
  have HS9 := Lib.hid ((HS7.out.only ho8 hgs.symm).below (alloc1 w8 (.cells #[.int .i64 v.k, .int .i64 v.i, .bool v.b, .string v.s, .float .f64 v.n] 25)))
  have HE8 := Lib.hid he8
  have h810 : b8 < w8.heap.size := (Array.getElem?_eq_some_iff.1 FR8.x).1
  have BX9 := Lib.hid hvb
  have HB9 := Lib.hid h810
  clear FR7 HR7 HS7 hr8 he8 ho8 FR8 hvb h810
  go_upto_region 7 with fail
  generalize w8.alloc (.cells #[.int .i64 v.k, .int .i64 v.i, .bool v.b, .string v.s, .float .f64 v.n] 25) = w9 at *
  generalize w8.heap.size = b10 at *
  by_cases her : ¬ er = 0
  · have hX := herr.out her
    subst hX
    have herb : (er != 0) = true := by simpa using her
    clear her
    have v0 := (heap_at (FR9.out.z) 0).trans (rfl : _ = some (Value.int .i64 0))
    have v1 := (heap_at (FR9.out.z) 1).trans (rfl : _ = some (Value.slice none 0 0))
    have v2 := (heap_at (FR9.out.z) 2).trans (rfl : _ = some (Value.string ⟨#[]⟩))
    have v3 := (heap_at (FR9.out.z) 3).trans (rfl : _ = some (Value.int .i64 0))
    have v4 := (heap_at (FR9.out.z) 4).trans (rfl : _ = some (Value.int .i64 0))
    have v5 := (heap_at (FR9.out.z) 5).trans (rfl : _ = some (Value.bool false))
    have v6 := (heap_at (FR9.out.z) 6).trans (rfl : _ = some (Value.string ⟨#[]⟩))
    have v7 := (heap_at (FR9.out.z) 7).trans (rfl : _ = some (Value.float .f64 0))
    have vf := heap_free FR9.out.z
    have vl : w.heap.size < w9.heap.size := (Array.getElem?_eq_some_iff.1 FR9.out.z).1
    go_wp2
    exact bodyPost_ret (v := .tuple #[agZ, .int .i64 er]) (by simp [results, Tryz.results44, go_sem, v0, v1, v2, v3, v4, v5, v6, v7, vl]) rfl (RpE.mk HR9.out FR9.out.t FR9.out.z (Nat.le_refl _) hgb _ _ _ _ _ _ _ _)
  · replace her := Decidable.not_not.1 her
    subst her
    have herb : ((0 : Int) != 0) = false := rfl
    obtain ⟨rfl, rfl⟩ := HE8.out rfl
    obtain ⟨y0, y1, y2, y3, y4⟩ := BX9.out
    have x3 := (heap_at FR9.out.x 3).trans (rfl : _ = some (Value.int .i64 0))
    have x4 := (heap_at FR9.out.x 4).trans (rfl : _ = some (Value.int .i64 0))
    have x5 := (heap_at FR9.out.x 5).trans (rfl : _ = some (Value.bool false))
    have x6 := (heap_at FR9.out.x 6).trans (rfl : _ = some (Value.string ⟨#[]⟩))
    have x7 := (heap_at FR9.out.x 7).trans (rfl : _ = some (Value.float .f64 0))
    have xf := heap_free FR9.out.x
    have xl : b8 < w9.heap.size := (Array.getElem?_eq_some_iff.1 FR9.out.x).1
    go_upto_region 10 with fail
    have ne68 := Nat.ne_of_lt H68.out
    have le68 := Nat.le_of_lt H68.out
    have hfr10 : Fr w g s w.heap.size b8 (((((w9.setCell ⟨b8, 3, none⟩ (.int .i64 v.k)).setCell ⟨b8, 4, none⟩ (.int .i64 v.i)).setCell ⟨b8, 5, none⟩ (.bool v.b)).setCell ⟨b8, 6, none⟩ (.string v.s)).setCell ⟨b8, 7, none⟩ (.float .f64 v.n)) #[.int .i64 op, .slice none 0 0, .string (strB m), .int .i64 v.k, .int .i64 v.i, .bool v.b, .string v.s, .float .f64 v.n] := ((((FR9.out.set ne68 le68 3 _).set ne68 le68 4 _).set ne68 le68 5 _).set ne68 le68 6 _).set ne68 le68 7 _
    have ho10 : Only b8 w9 (((((w9.setCell ⟨b8, 3, none⟩ (.int .i64 v.k)).setCell ⟨b8, 4, none⟩ (.int .i64 v.i)).setCell ⟨b8, 5, none⟩ (.bool v.b)).setCell ⟨b8, 6, none⟩ (.string v.s)).setCell ⟨b8, 7, none⟩ (.float .f64 v.n)) := (((((Only.refl _ _).set _ _).set _ _).set _ _).set _ _).set _ _
    have HR10 := Lib.hid (HR9.out.offT ho10 hg8 FR9.out.x (by decide))
    have HS10 := Lib.hid (HS9.out.only ho10 hs8)
    have FR10 := Lib.hid hfr10
    generalize (((((w9.setCell ⟨b8, 3, none⟩ (.int .i64 v.k)).setCell ⟨b8, 4, none⟩ (.int .i64 v.i)).setCell ⟨b8, 5, none⟩ (.bool v.b)).setCell ⟨b8, 6, none⟩ (.string v.s)).setCell ⟨b8, 7, none⟩ (.float .f64 v.n)) = w10 at *
    clear hfr10 ho10 x3 x4 x5 x6 x7 xf xl y0 y1 y2 y3 y4 FR9 HR9 HS9 HE8 BX9 HB9 herr ne68 le68
    obtain ⟨i1, hi1, hz1, hsz1, hby1⟩ := infoZ exprinfo
    have HK := Lib.hid (HOK.out rfl)
    clear HOK herb
    generalize hL : getL F c (n - 1) r8 = L at *
    have HL := Lib.hid hL
    clear hL
    go_wp2
    go_loopw [40] (fun i wr => ∃ (k : Nat) (qs : List Kx) (nk : Int) (rk : List UInt8) (row : Value), k ≤ c ∧ i = .int .i64 k ∧ RpI F w g s w.heap.size b8 d c L op (strB m) v wr k qs nk rk row) (fun i _ => c - (intOf i).toNat)
    case atStart =>
      refine ⟨0, [], n - 1, r8, .slice none 0 0, Nat.zero_le _, rfl, ⟨?_, by have := H01.out; omega, by have := H01.out; omega, H4.out, HR10.out, HS10.out, FR10.out, World.ownsRow_nil _ _ _ _, fun q hq => by cases hq⟩⟩
      rw [List.map_nil, pre_nil, Nat.sub_zero]
      exact HL.out
    case round =>
      obtain ⟨k, qs, nk, rk, row, hk, rfl, hi⟩ := hrel
      have HI := Lib.hid hi
      clear hi FR10 HR10 HS10
      by_cases hlt : k < c
      · have hltI : (k : Int) < (c : Int) := by omega
        have hcall := IH.out nk rk wr HI.out.n0 HI.out.n1 HI.out.rd HI.out.sz HI.out.len
        rcases hx : F nk rk with er | ⟨kid, n1, r1⟩
        · rw [hx] at hcall
          have hne := HFE.out nk rk er hx
          have herb : (er != 0) = true := by simpa using hne
          have hL : L = .error er := by rw [← HI.out.pre, show c - k = c - (k + 1) + 1 by omega]; exact pre_no hx
          have hX := HK.out.1 er hL
          subst hX
          have HC := Lib.hid (show Calls _ _ _ _ (RpE g s er wr) from hcall)
          clear hcall hx hne hL hlt
          go_wp2_with fail
          refine HC.out.mono ?_
          rintro _ wA ⟨rfl, ⟨r', e', hrA⟩, htA⟩
          have FA := Lib.hid ((HI.out.fr.two htA hgb.symm hsb.symm hg8.symm hs8.symm).two (Below.two (alloc1 wA (.cells z8 27)) g s) hgb.symm hsb.symm hg8.symm hs8.symm)
          have HRA := Lib.hid (hrA.below (alloc1 wA (.cells z8 27)))
          clear hrA htA
          go_upto_region 13 with fail
          unfold z8 at FA HRA
          generalize wA.alloc (.cells #[.int .i64 0, .slice none 0 0, .string ⟨#[]⟩, .int .i64 0, .int .i64 0, .bool false, .string ⟨#[]⟩, .float .f64 0] 27) = wB at *
          have v0 := (heap_at (FA.out.z) 0).trans (rfl : _ = some (Value.int .i64 0))
          have v1 := (heap_at (FA.out.z) 1).trans (rfl : _ = some (Value.slice none 0 0))
          have v2 := (heap_at (FA.out.z) 2).trans (rfl : _ = some (Value.string ⟨#[]⟩))
          have v3 := (heap_at (FA.out.z) 3).trans (rfl : _ = some (Value.int .i64 0))
          have v4 := (heap_at (FA.out.z) 4).trans (rfl : _ = some (Value.int .i64 0))
          have v5 := (heap_at (FA.out.z) 5).trans (rfl : _ = some (Value.bool false))
          have v6 := (heap_at (FA.out.z) 6).trans (rfl : _ = some (Value.string ⟨#[]⟩))
          have v7 := (heap_at (FA.out.z) 7).trans (rfl : _ = some (Value.float .f64 0))
          have vf := heap_free FA.out.z
          have vl : w.heap.size < wB.heap.size := (Array.getElem?_eq_some_iff.1 FA.out.z).1
          go_wp2
          exact bodyPost_ret (v := .tuple #[agZ, .int .i64 er]) (by simp [results, Tryz.results44, go_sem, v0, v1, v2, v3, v4, v5, v6, v7, vl]) rfl (RpE.mk HRA.out FA.out.t FA.out.z (Nat.le_refl _) hgb _ _ _ _ _ _ _ _)
        · rw [hx] at hcall
          have HC := Lib.hid (show Calls _ _ _ _ (RpO g s d (kid, n1, r1) wr) from hcall)
          have HX := Lib.hid hx
          have HLT := Lib.hid hlt
          have HLI := Lib.hid hltI
          clear hcall hx
          go_wp2_with fail
          refine HC.out.mono ?_
          rintro _ wA ⟨A', c', rfl, hex, hrdA, hszA, htA⟩
          have FA := Lib.hid (HI.out.fr.two htA hgb.symm hsb.symm hg8.symm hs8.symm)
          have HEX := Lib.hid hex
          have HRA := Lib.hid hrdA
          have HSA := Lib.hid hszA
          have HTA := Lib.hid htA
          have hown2 := own_twb HI.out.own htA (by have := HGL.out; have := H68.out; omega) (by have := HSL.out; have := H68.out; omega)
          have HOW := Lib.hid ((hown2.alloc (.cells (Kx.mk kid A' c').cells.toArray 27)).alloc (.cells (Kx.mk kid A' c').cells.toArray 27))
          have hrw := rows_one (wA.alloc (.cells (Kx.mk kid A' c').cells.toArray 27)) (Kx.mk kid A' c').cells 27 8 rfl
          rw [World.size_alloc] at hrw
          have HRW := Lib.hid hrw
          clear hrw
          have x1 := (heap_at FA.out.x 1).trans (rfl : _ = some row)
          have xf := heap_free FA.out.x
          have xl : b8 < wA.heap.size := (Array.getElem?_eq_some_iff.1 FA.out.x).1
          have h00 : ((0 : Int) != 0) = false := rfl
          clear hex hrdA hszA htA hown2 hlt
          go_upto_region 15 with fail
          have hb1 : k + 1 ≤ maxLen := by have := HC4.out; have := HLT.out; unfold maxLen; omega
          have hb2 : (k + 1) * 96 ≤ 140737488355328 := by have := HC4.out; have := HLT.out; omega
          have hb3 : b8 + 1 ≤ ((wA.alloc (.cells (Kx.mk kid A' c').cells.toArray 27)).alloc (.cells (Kx.mk kid A' c').cells.toArray 27)).heap.size := by simp only [World.size_alloc]; omega
          have hb4 : ∀ u ∈ (Kx.mk kid A' c').cells, u.oneCell' = true := fun u hu => kx_one [Kx.mk kid A' c'] u (by rw [List.flatMap_cons, List.flatMap_nil, List.append_nil]; exact hu)
          have HBS := Lib.hid (And.intro hb1 (And.intro hb2 (And.intro hb3 hb4)))
          clear hb1 hb2 hb3 hb4
          have hkb : k + 1 ≤ 4294967295 := by have := HC4.out; have := HLT.out; omega
          go_wp2_with (at_builtin; refine wpList_append_rows rfl (.tmp 55) (.tmp 57) 22 rfl (b8 + 1) 27 i1 agZ 8 96 Tryz.underlying22 hi1 hz1 hsz1 hby1 rfl (by decide) row k _ rfl HOW.out _ 1 _ rfl HRW.out HBS.out.2.2.2 HBS.out.1 HBS.out.2.1 HBS.out.2.2.1 ?_; intro v4 w4 hown4 hgr4 hor4; obtain ⟨A4, c4, rfl⟩ := own_sliceX hown4; have HN := Lib.hid (RpI.next HI.out HLT.out HX.out (HBD.out _ _ _ _ _ HI.out.n0 HX.out) HGL.out HSL.out (Nat.le_refl _) H68.out HEX.out HRA.out HSA.out HTA.out hown4 hgr4 hor4); have hbb := hgr4.block b8 (Nat.lt_of_lt_of_le (Nat.lt_succ_self b8) HBS.out.2.2.1) (fun e => by have := (HOW.out.lt b8 e.symm).1; omega); have hbx := hbb.trans (((alloc1 _ _).block b8 (by simp only [World.size_alloc]; omega)).trans (((alloc1 _ _).block b8 xl).trans FA.out.x)); have x1b := (heap_at hbx 1).trans (rfl : _ = some row); have xfb := heap_free hbx 1; clear hown4 hgr4 hor4 hbb hbx x1 xf xl)
          go_roundw
          case rel => exact ⟨k + 1, _, n1, r1, _, by have := HLT.out; omega, by go_num, HN.out⟩
          case measure => simp [intOf]; have := HLT.out; omega
      · obtain rfl : k = c := by omega
        have hpre := HI.out.pre
        rw [Nat.sub_self, pre_end] at hpre
        have hX := HK.out.2 _ _ _ hpre.symm
        subst hX
        obtain ⟨A2, c2, rfl, hex⟩ := exs_own (T := fun b => w.heap.size < b) HI.out.own HI.out.kids (fun b hb => by have := H68.out; omega) (fun b hb => by have := H68.out; omega) op (strB m) v
        have HEX := Lib.hid hex
        have FA := Lib.hid HI.out.fr
        have HRS := Lib.hid (And.intro HI.out.rd HI.out.sz)
        clear hex hpre HI HL
        have v0 := (heap_at (FA.out.z) 0).trans (rfl : _ = some (Value.int .i64 0))
        have v1 := (heap_at (FA.out.z) 1).trans (rfl : _ = some (Value.slice none 0 0))
        have v2 := (heap_at (FA.out.z) 2).trans (rfl : _ = some (Value.string ⟨#[]⟩))
        have v3 := (heap_at (FA.out.z) 3).trans (rfl : _ = some (Value.int .i64 0))
        have v4 := (heap_at (FA.out.z) 4).trans (rfl : _ = some (Value.int .i64 0))
        have v5 := (heap_at (FA.out.z) 5).trans (rfl : _ = some (Value.bool false))
        have v6 := (heap_at (FA.out.z) 6).trans (rfl : _ = some (Value.string ⟨#[]⟩))
        have v7 := (heap_at (FA.out.z) 7).trans (rfl : _ = some (Value.float .f64 0))
        have x0 := (heap_at (FA.out.x) 0).trans (rfl : _ = some (Value.int .i64 op))
        have x1 := (heap_at (FA.out.x) 1).trans (rfl : _ = some (Value.slice A2 (qs.map Kx.e).length c2))
        have x2 := (heap_at (FA.out.x) 2).trans (rfl : _ = some (Value.string (strB m)))
        have x3 := (heap_at (FA.out.x) 3).trans (rfl : _ = some (Value.int .i64 v.k))
        have x4 := (heap_at (FA.out.x) 4).trans (rfl : _ = some (Value.int .i64 v.i))
        have x5 := (heap_at (FA.out.x) 5).trans (rfl : _ = some (Value.bool v.b))
        have x6 := (heap_at (FA.out.x) 6).trans (rfl : _ = some (Value.string v.s))
        have x7 := (heap_at (FA.out.x) 7).trans (rfl : _ = some (Value.float .f64 v.n))
        have vf := heap_free FA.out.z
        have vl : w.heap.size < wr.heap.size := (Array.getElem?_eq_some_iff.1 FA.out.z).1
        have xl : b8 < wr.heap.size := (Array.getElem?_eq_some_iff.1 FA.out.x).1
        generalize hks : qs.map Kx.e = ks at *
        clear hks
        go_wp2
        exact bodyPost_ret (v := .tuple #[agX op A2 ks.length c2 (strB m) v, .int .i64 0]) (by simp [results, Tryz.results44, go_sem, v0, v1, v2, v3, v4, v5, v6, v7, vl]) rfl (RpO.mk (x := .mk op (strB m) v ks) HEX.out HRS.out.1 HRS.out.2 FA.out.t FA.out.z (Nat.le_refl _) hgb hsb _ _ _ _ _ _ _ _)
set_option maxHeartbeats 8000000 in
theorem readParts_some (g s : Nat) (d : Nat) (n deep : Int) (rest : List UInt8) (w : World) (hgs : g ≠ s) (hd : d + 1 ≤ 6) (hdeep : deep = 7 - ((d + 1 : Nat) : Int)) (h0 : 1 ≤ n) (h1 : n ≤ 24) (hr : RdR w g rest 0) (hs : SzB w s (24 - n)) (hlen : rest.length ≤ 1000000000000)
    (ih : ∀ n rest w, 0 ≤ n → n ≤ 24 → RdR w g rest 0 → SzB w s (24 - n) → rest.length ≤ 1000000000000 → Calls Tryz.prog 44 #[.pointer (some ⟨g, 0, none⟩), .pointer (some ⟨s, 0, none⟩), .int .i64 (deep + 1)] w (RpP g s d (getX d n rest) w)) :
    Calls Tryz.prog 44 #[.pointer (some ⟨g, 0, none⟩), .pointer (some ⟨s, 0, none⟩), .int .i64 deep] w (RpP g s (d + 1) (getX (d + 1) n rest) w) := by
  have q1 : ∀ W, RdR W g rest 0 → Calls Tryz.prog 91 #[.pointer (some ⟨g, 0, none⟩)] W (Did g (.int .i64 (wrap64 ((stepF 8 alInt rest 0).1 : Int))) (stepF 8 alInt rest 0).2.1 (stepF 8 alInt rest 0).2.2 W) := fun W h => Int_any g rest 0 W h
  have l1 := stepF_len 8 alInt rest 0
  rcases hs1 : stepF 8 alInt rest 0 with ⟨o, r1, e1⟩
  rw [hs1] at q1 l1
  have q2 : ∀ W, RdR W g r1 e1 → Calls Tryz.prog 92 #[.pointer (some ⟨g, 0, none⟩), .int .i64 3] W (Did g (.int .i64 (wrap64 ((stepF 4 (alCount 3) r1 e1).1 : Int))) (stepF 4 (alCount 3) r1 e1).2.1 (stepF 4 (alCount 3) r1 e1).2.2 W) := fun W h => Count_any g r1 e1 3 (by decide) (by decide) W h
  have l2 := stepF_len 4 (alCount 3) r1 e1
  have hc4 := step4_le (alCount 3) r1 e1
  rcases hs2 : stepF 4 (alCount 3) r1 e1 with ⟨c, r2, e2⟩
  rw [hs2] at q2 l2 hc4
  dsimp only at q1 q2 l1 l2 hc4
  have hcw : wrap64 (c : Int) = c := by unfold wrap64; omega
  rw [hcw] at q2
  have q3 : ∀ W, RdR W g r2 e2 → Calls Tryz.prog 93 #[.pointer (some ⟨g, 0, none⟩), .int .i64 16] W (DidB g (bytesF 16 r2 e2).1 (bytesF 16 r2 e2).2.1 (bytesF 16 r2 e2).2.2 W) := fun W h => Bytes_any g r2 e2 16 (by decide) (by decide) W h (by omega)
  have l3 := bytesF_len 16 r2 e2
  rcases hs3 : bytesF 16 r2 e2 with ⟨m, r3, e3⟩
  rw [hs3] at q3 l3
  dsimp only at q3 l3
  have q4 : ∀ W, RdR W g r3 e3 → Calls Tryz.prog 94 #[.pointer (some ⟨g, 0, none⟩)] W (RvP g (rvF r3 e3).1 (rvF r3 e3).2.2 (rvF r3 e3).2.1 W) := fun W h => readVal_any g r3 e3 W h (by omega)
  have l4 := rvF_len r3 e3
  rcases hs4 : rvF r3 e3 with ⟨v, r4, er⟩
  rw [hs4] at q4 l4
  dsimp only at q4 l4
  exact readParts_walk g s d n deep 0 rest w hgs hd hdeep h0 h1 hr hs (getX d) (getX_bd d) (getX_er d) (getX (d + 1) n rest) (wrap64 (o : Int)) c m v er e1 e2 e3 r1 r2 r3 r4 ih q1 q2 hc4 q3 q4 (by omega) (fun h => getX_head_err (d := d) (by omega) hs1 hs2 hs3 hs4 h) (fun h => getX_head_ok (d := d) (by omega) hs1 hs2 hs3 (hs4.trans (by rw [h])))
/-- readParts -/
theorem eReadParts_any (g s : Nat) (hgs : g ≠ s) : ∀ (d : Nat) (n deep : Int) (rest : List UInt8) (w : World), d ≤ 6 → deep = 7 - d → 0 ≤ n → n ≤ 24 → RdR w g rest 0 → SzB w s (24 - n) → rest.length ≤ 1000000000000 →
    Calls Tryz.prog 44 #[.pointer (some ⟨g, 0, none⟩), .pointer (some ⟨s, 0, none⟩), .int .i64 deep] w (RpP g s d (getX d n rest) w)
  | 0, n, deep, rest, w, hd, hdeep, h0, h1, hr, hs, hlen => by
    rw [getX_none (.inl rfl)]
    exact readParts_none g s 0 n deep rest w hgs hd hdeep h0 h1 hr hs (.inl rfl)
  | d + 1, n, deep, rest, w, hd, hdeep, h0, h1, hr, hs, hlen => by
    by_cases hn : n < 1
    · rw [getX_none (.inr hn)]
      exact readParts_none g s (d + 1) n deep rest w hgs hd hdeep h0 h1 hr hs (.inr hn)
    · exact readParts_some g s d n deep rest w hgs hd hdeep (by omega) h1 hr hs hlen fun n rest w a b c e f => eReadParts_any g s hgs d n (deep + 1) rest w (by omega) (by omega) a b c e f
/-- behind an error nothing is read -/
theorem readParts_late (g s : Nat) (hgs : g ≠ s) (e0 : Int) (he : e0 ≠ 0) (rest : List UInt8) (w : World) (hr : RdR w g rest e0) (hs : SzB w s (24 - 24)) (hlen : rest.length ≤ 1000000000000) :
    Calls Tryz.prog 44 #[.pointer (some ⟨g, 0, none⟩), .pointer (some ⟨s, 0, none⟩), .int .i64 1] w (RpE g s e0 w) := by
  have s1 : stepF 8 alInt rest e0 = (0, rest, e0) := by unfold stepF; rw [if_pos he]
  have s2 : stepF 4 (alCount 3) rest e0 = (0, rest, e0) := by unfold stepF; rw [if_pos he]
  have s3 : bytesF 16 rest e0 = ([], rest, e0) := by
    have h : stepF 4 (alBytes 16 rest) rest e0 = (0, rest, e0) := by unfold stepF; rw [if_pos he]
    unfold bytesF
    rw [h, if_pos rfl]
  have s4 := rvF_err rest e0 he
  have hw0 : wrap64 ((0 : Nat) : Int) = 0 := by unfold wrap64; omega
  have q1 : ∀ W, RdR W g rest e0 → Calls Tryz.prog 91 #[.pointer (some ⟨g, 0, none⟩)] W (Did g (.int .i64 0) rest e0 W) := fun W h => by
    have h := Int_any g rest e0 W h
    rw [s1] at h
    dsimp only at h
    rw [hw0] at h
    exact h
  have q2 : ∀ W, RdR W g rest e0 → Calls Tryz.prog 92 #[.pointer (some ⟨g, 0, none⟩), .int .i64 3] W (Did g (.int .i64 ((0 : Nat) : Int)) rest e0 W) := fun W h => by
    have h := Count_any g rest e0 3 (by decide) (by decide) W h
    rw [s2] at h
    dsimp only at h
    rw [hw0] at h
    exact h
  have q3 : ∀ W, RdR W g rest e0 → Calls Tryz.prog 93 #[.pointer (some ⟨g, 0, none⟩), .int .i64 16] W (DidB g [] rest e0 W) := fun W h => by
    have h := Bytes_any g rest e0 16 (by decide) (by decide) W h (by omega)
    rw [s3] at h
    exact h
  have q4 : ∀ W, RdR W g rest e0 → Calls Tryz.prog 94 #[.pointer (some ⟨g, 0, none⟩)] W (RvP g vZero e0 rest W) := fun W h => by
    have h := readVal_any g rest e0 W h hlen
    rw [s4] at h
    exact h
  exact readParts_walk g s 5 24 1 e0 rest w hgs (by omega) (by decide) (by decide) (by decide) hr hs (getX 5) (getX_bd 5) (getX_er 5) (.error e0) 0 0 [] vZero e0 e0 e0 e0 rest rest rest rest
    (fun n rest w a b c e f => eReadParts_any g s hgs 5 n 2 rest w (by omega) (by decide) a b c e f) q1 q2 (by omega) q3 q4 hlen (fun _ => rfl) (fun h => absurd h he)
end Go.Proofs.YtkhpgejammgolaaGreat

/- Layer 5: Get, by the program. -/
namespace Go.Proofs.YtkhpgejammgolaaGreat
open Go.RowKit
set_option linter.unusedVariables false
set_option linter.unusedSimpArgs false
set_option maxRecDepth 20000

/-- what Get leaves: an error, or the expression in new memory -/
def GxE (g : Nat) (er : Int) (w : World) (e : Ending) (w' : World) : Prop := e = .returned (.tuple #[agZ, .int .i64 er]) ∧ (∃ r' e', RdR w' g r' e') ∧ Only g w w'
def GxO (g : Nat) (x : Ex × Int × List UInt8) (w : World) (e : Ending) (w' : World) : Prop :=
  ∃ A c, e = .returned (.tuple #[agX x.1.op A x.1.kids.length c x.1.name x.1.val, .int .i64 0]) ∧ ExS (fun b => w.heap.size ≤ b) w' 6 A c x.1 ∧ RdR w' g x.2.2 0 ∧ Only g w w'
def GxP (g : Nat) (x : Except Int (Ex × Int × List UInt8)) (w : World) (e : Ending) (w' : World) : Prop := match x with
  | .error er => GxE g er w e w'
  | .ok y => GxO g y w e w'
theorem Only.new {g k : Nat} {a w w' : World} (h : Only g a w) (ho : Only k w w') (hk : a.heap.size ≤ k) : Only g a w' :=
  ⟨ho.os.trans h.os, ho.tape.trans h.tape, ho.output.trans h.output, Nat.le_trans h.size ho.size, fun m hm h1 => (ho.block m (Nat.lt_of_lt_of_le hm h.size) (by intro e; injection e with e; omega)).trans (h.block m hm h1)⟩
theorem GxE.mk {g b6 : Nat} {er e' : Int} {r' : List UInt8} {w W : World} {cs : Array Value} (hr : RdR W g r' e') (ho : Only g w W) (hz : W.heap[b6]? = some (.cells cs 27 (0, 0))) (hb : w.heap.size ≤ b6) (hg : g ≠ b6) (u0 u1 u2 u3 u4 u5 u6 u7 : Value) :
    GxE g er w (.returned (.tuple #[agZ, .int .i64 er])) (set8 W b6 u0 u1 u2 u3 u4 u5 u6 u7) :=
  ⟨rfl, ⟨_, _, hr.offT (set8_only _ _ _ _ _ _ _ _ _ _) hg hz (by decide)⟩, ho.new (set8_only _ _ _ _ _ _ _ _ _ _) hb⟩
theorem GxO.mk {g b6 c : Nat} {n : Int} {r : List UInt8} {x : Ex} {A : Option Addr} {w W : World} {cs : Array Value} (hx : ExS (fun b => b6 < b) W 6 A c x) (hr : RdR W g r 0) (ho : Only g w W) (hz : W.heap[b6]? = some (.cells cs 27 (0, 0))) (hb : w.heap.size ≤ b6) (hg : g ≠ b6) (u0 u1 u2 u3 u4 u5 u6 u7 : Value) :
    GxO g (x, n, r) w (.returned (.tuple #[agX x.op A x.kids.length c x.name x.val, .int .i64 0])) (set8 W b6 u0 u1 u2 u3 u4 u5 u6 u7) := by
  have h8 := set8_only W b6 u0 u1 u2 u3 u4 u5 u6 u7
  exact ⟨A, c, rfl, hx.move (fun b hb2 hl => ⟨h8.block b hl (by intro e; injection e with e; omega), by omega⟩) h8.size, hr.offT h8 hg hz (by decide), ho.new h8 hb⟩
/-- 5.3, behind an error, too -/
def getXE (rest : List UInt8) (e : Int) : Except Int (Ex × Int × List UInt8) := if e = 0 then getX 6 24 rest else .error e

set_option maxHeartbeats 4000000 in
theorem eGet_walk (g : Nat) (rest : List UInt8) (e0 : Int) (X : Except Int (Ex × Int × List UInt8)) (hX : ∀ er, X = .error er → er ≠ 0) (w : World) (hr : RdR w g rest e0)
    (hq : ∀ s W, g ≠ s → RdR W g rest e0 → SzB W s (24 - 24) → Calls Tryz.prog 44 #[.pointer (some ⟨g, 0, none⟩), .pointer (some ⟨s, 0, none⟩), .int .i64 1] W (RpP g s 6 X W)) :
    Calls Tryz.prog 14 #[.pointer (some ⟨g, 0, none⟩)] w (GxP g X w) := by
  obtain ⟨A, c, hbt, -, -, -, hc0, hc1, hf, hgl⟩ := hr.open
  have hsf := fun (w : World) (a : Addr) (m : Mode) (b : Nat) => run_store Tryz.prog w a (.float .f64 b) m rfl
  have h1 := alloc1 w (.cells z8 27)
  have h2 := alloc1 (w.alloc (.cells z8 27)) (.cells #[.slice A rest.length c, .int .i64 e0] 83)
  have h3 := alloc1 ((w.alloc (.cells z8 27)).alloc (.cells #[.slice A rest.length c, .int .i64 e0] 83)) (.cells #[.int .i64 0] 87)
  have hz1 := heap_alloc_new w (.cells z8 27)
  have hz3 : SzB (((w.alloc (.cells z8 27)).alloc (.cells #[.slice A rest.length c, .int .i64 e0] 83)).alloc (.cells #[.int .i64 0] 87)) (w.heap.size + 2) (24 - 24) := by
    have h := heap_alloc_new ((w.alloc (.cells z8 27)).alloc (.cells #[.slice A rest.length c, .int .i64 e0] 83)) (.cells #[.int .i64 0] 87)
    rw [World.size_alloc, World.size_alloc] at h
    exact h
  have hcp := RdR.copy (W := w.alloc (.cells z8 27)) (e := e0) (Bt.below hbt h1 (Nat.le_refl _)) (w.heap.size + 1) (by simp)
  have hcall := hq (w.heap.size + 2) _ (by omega) (((hr.below h1).below h2).below h3) hz3
  have HZ1 := Lib.hid ((h3.block w.heap.size (by simp; omega)).trans ((h2.block w.heap.size (by simp)).trans hz1))
  have HCP := Lib.hid (hcp.below h3)
  obtain ⟨csg, hgc, -⟩ := (((hr.below h1).below h2).below h3).cells
  have HGC := Lib.hid hgc
  have HSC := Lib.hid hz3
  have HC := Lib.hid hcall
  have HG := Lib.hid hgl
  have HB := Lib.hid (h1.trans ((h2.mono (by simp)).trans (h3.mono (by simp; omega))))
  have hHX := Lib.hid hX
  have hgb : g ≠ w.heap.size := by omega
  have hgp : g ≠ w.heap.size + 1 := by omega
  clear hgc hcall hq hr hbt h1 h2 h3 hz1 hz3 hcp hX
  have hnil : ∀ W : World, True := fun _ => trivial
  go_enter Tryz.func14, Tryz.ntmps14
  rcases X with er | y
  · have hne := hHX.out er rfl
    have herb : (er != 0) = true := by simpa using hne
    have HCE := Lib.hid (show Calls _ _ _ _ (RpE g (w.heap.size + 2) er _) from HC.out)
    clear HC hHX hne
    go_wp2_with fail
    unfold z8 at HCE
    refine HCE.out.mono ?_
    rintro _ wA ⟨rfl, ⟨r', e', hrA⟩, htA⟩
    have hz := (htA.block w.heap.size (by simp; omega) hgb.symm (by omega)).trans HZ1.out
    have hcpA : RdR wA (w.heap.size + 1) rest e0 := HCP.out.keep htA.size (htA.block _ HCP.out.lt hgp.symm (by omega)) fun k cs fr hk => htA.block k (Array.getElem?_eq_some_iff.1 hk).1 (other_block hk HGC.out (by decide)) (other_block hk HSC.out (by decide))
    have hz2 := ((alloc1 wA (.cells #[.int .i64 0, .slice none 0 0, .string ⟨#[]⟩, .int .i64 0, .int .i64 0, .bool false, .string ⟨#[]⟩, .float .f64 0] 27)).block w.heap.size (Array.getElem?_eq_some_iff.1 hz).1).trans hz
    have hon : Only g w wA := ⟨htA.os.trans HB.out.os, htA.tape.trans HB.out.tape, htA.output.trans HB.out.output, Nat.le_trans HB.out.size htA.size, fun m hm h1 => (htA.block m (by simp; omega) (fun e => h1 (by rw [e])) (by omega)).trans (HB.out.block m hm)⟩
    have hg5 : g ≠ wA.heap.size := Nat.ne_of_lt hrA.lt
    have HZ := Lib.hid hz2
    have HRA := Lib.hid (hrA.below (alloc1 wA (.cells #[.int .i64 0, .slice none 0 0, .string ⟨#[]⟩, .int .i64 0, .int .i64 0, .bool false, .string ⟨#[]⟩, .float .f64 0] 27)))
    have HCA := Lib.hid (hcpA.below (alloc1 wA (.cells #[.int .i64 0, .slice none 0 0, .string ⟨#[]⟩, .int .i64 0, .int .i64 0, .bool false, .string ⟨#[]⟩, .float .f64 0] 27)))
    have HON := Lib.hid (hon.below (alloc1 wA (.cells #[.int .i64 0, .slice none 0 0, .string ⟨#[]⟩, .int .i64 0, .int .i64 0, .bool false, .string ⟨#[]⟩, .float .f64 0] 27)))
    have HNB := Lib.hid (heap_alloc_new wA (.cells #[.int .i64 0, .slice none 0 0, .string ⟨#[]⟩, .int .i64 0, .int .i64 0, .bool false, .string ⟨#[]⟩, .float .f64 0] 27))
    clear hrA htA hz hcpA hz2 hon HCE hc0 hc1 hf hgl
    go_upto_region 5 with fail
    generalize wA.alloc (.cells #[.int .i64 0, .slice none 0 0, .string ⟨#[]⟩, .int .i64 0, .int .i64 0, .bool false, .string ⟨#[]⟩, .float .f64 0] 27) = wB at *
    generalize wA.heap.size = b5 at *
    by_cases he' : e' = 0
    · subst he'
      go_wp2_with fail
      refine (Err_any g r' 0 wB HRA.out).mono ?_
      rintro _ w' ⟨rfl, rfl⟩
      obtain ⟨A2, c2, hbt2, -, -, -, d0, d1, -, -⟩ := HCA.out.open
      obtain ⟨A3, c3, -, -, -, -, g0, g1, gf, gl⟩ := HRA.out.open
      have HBK := Lib.hid (HRA.out.back hbt2 (e1 := e0))
      have ho2 : Only g wB ((wB.setCell ⟨g, 0, none⟩ (.slice A2 rest.length c2)).setCell ⟨g, 1, none⟩ (.int .i64 e0)) := ((Only.refl g wB).set _ _).set _ _
      have HO2 := Lib.hid (HON.out.trans ho2)
      have HZB := Lib.hid ((ho2.block w.heap.size (Array.getElem?_eq_some_iff.1 HZ.out).1 (by intro e; injection e with e; exact hgb e.symm)).trans HZ.out)
      have HNB2 := Lib.hid ((ho2.block b5 (Array.getElem?_eq_some_iff.1 HNB.out).1 (by intro e; injection e with e; exact hg5 e.symm)).trans HNB.out)
      clear hbt2 ho2
      go_upto_region 7 with fail
      generalize (wB.setCell ⟨g, 0, none⟩ (.slice A2 rest.length c2)).setCell ⟨g, 1, none⟩ (.int .i64 e0) = wC at *
      clear d0 d1 g0 g1 gf gl
      have v0 := (heap_at (HZB.out) 0).trans (rfl : _ = some (Value.int .i64 0))
      have v1 := (heap_at (HZB.out) 1).trans (rfl : _ = some (Value.slice none 0 0))
      have v2 := (heap_at (HZB.out) 2).trans (rfl : _ = some (Value.string ⟨#[]⟩))
      have v3 := (heap_at (HZB.out) 3).trans (rfl : _ = some (Value.int .i64 0))
      have v4 := (heap_at (HZB.out) 4).trans (rfl : _ = some (Value.int .i64 0))
      have v5 := (heap_at (HZB.out) 5).trans (rfl : _ = some (Value.bool false))
      have v6 := (heap_at (HZB.out) 6).trans (rfl : _ = some (Value.string ⟨#[]⟩))
      have v7 := (heap_at (HZB.out) 7).trans (rfl : _ = some (Value.float .f64 0))
      have x0 := (heap_at (HNB2.out) 0).trans (rfl : _ = some (Value.int .i64 0))
      have x1 := (heap_at (HNB2.out) 1).trans (rfl : _ = some (Value.slice none 0 0))
      have x2 := (heap_at (HNB2.out) 2).trans (rfl : _ = some (Value.string ⟨#[]⟩))
      have x3 := (heap_at (HNB2.out) 3).trans (rfl : _ = some (Value.int .i64 0))
      have x4 := (heap_at (HNB2.out) 4).trans (rfl : _ = some (Value.int .i64 0))
      have x5 := (heap_at (HNB2.out) 5).trans (rfl : _ = some (Value.bool false))
      have x6 := (heap_at (HNB2.out) 6).trans (rfl : _ = some (Value.string ⟨#[]⟩))
      have x7 := (heap_at (HNB2.out) 7).trans (rfl : _ = some (Value.float .f64 0))
      have vf := heap_free (HZB.out)
      have vl : w.heap.size < wC.heap.size := (Array.getElem?_eq_some_iff.1 (HZB.out)).1
      go_wp2
      exact bodyPost_ret (v := .tuple #[agZ, .int .i64 er]) (by simp [results, Tryz.results14, go_sem, v0, v1, v2, v3, v4, v5, v6, v7, vl]) rfl (GxE.mk HBK.out HO2.out HZB.out (Nat.le_refl _) hgb _ _ _ _ _ _ _ _)
    · have heb : (e' == 0) = false := by simpa using he'
      go_wp2_with fail
      refine (Err_any g r' e' wB HRA.out).mono ?_
      rintro _ w' ⟨rfl, rfl⟩
      clear he'
      have v0 := (heap_at (HZ.out) 0).trans (rfl : _ = some (Value.int .i64 0))
      have v1 := (heap_at (HZ.out) 1).trans (rfl : _ = some (Value.slice none 0 0))
      have v2 := (heap_at (HZ.out) 2).trans (rfl : _ = some (Value.string ⟨#[]⟩))
      have v3 := (heap_at (HZ.out) 3).trans (rfl : _ = some (Value.int .i64 0))
      have v4 := (heap_at (HZ.out) 4).trans (rfl : _ = some (Value.int .i64 0))
      have v5 := (heap_at (HZ.out) 5).trans (rfl : _ = some (Value.bool false))
      have v6 := (heap_at (HZ.out) 6).trans (rfl : _ = some (Value.string ⟨#[]⟩))
      have v7 := (heap_at (HZ.out) 7).trans (rfl : _ = some (Value.float .f64 0))
      have x0 := (heap_at (HNB.out) 0).trans (rfl : _ = some (Value.int .i64 0))
      have x1 := (heap_at (HNB.out) 1).trans (rfl : _ = some (Value.slice none 0 0))
      have x2 := (heap_at (HNB.out) 2).trans (rfl : _ = some (Value.string ⟨#[]⟩))
      have x3 := (heap_at (HNB.out) 3).trans (rfl : _ = some (Value.int .i64 0))
      have x4 := (heap_at (HNB.out) 4).trans (rfl : _ = some (Value.int .i64 0))
      have x5 := (heap_at (HNB.out) 5).trans (rfl : _ = some (Value.bool false))
      have x6 := (heap_at (HNB.out) 6).trans (rfl : _ = some (Value.string ⟨#[]⟩))
      have x7 := (heap_at (HNB.out) 7).trans (rfl : _ = some (Value.float .f64 0))
      have vf := heap_free (HZ.out)
      have vl : w.heap.size < wB.heap.size := (Array.getElem?_eq_some_iff.1 (HZ.out)).1
      go_wp2
      exact bodyPost_ret (v := .tuple #[agZ, .int .i64 er]) (by simp [results, Tryz.results14, go_sem, v0, v1, v2, v3, v4, v5, v6, v7, vl]) rfl (GxE.mk HRA.out HON.out HZ.out (Nat.le_refl _) hgb _ _ _ _ _ _ _ _)
  · obtain ⟨x, n', r'⟩ := y
    have h00 : ((0 : Int) != 0) = false := rfl
    have HCE := Lib.hid (show Calls _ _ _ _ (RpO g (w.heap.size + 2) 6 (x, n', r') _) from HC.out)
    clear HC hHX
    go_wp2_with fail
    unfold z8 at HCE
    refine HCE.out.mono ?_
    rintro _ wA ⟨A', c', rfl, hex, hrA, -, htA⟩
    have hz := (htA.block w.heap.size (by simp; omega) hgb.symm (by omega)).trans HZ1.out
    have hz2 := ((alloc1 wA (.cells #[.int .i64 x.op, .slice A' x.kids.length c', .string x.name, .int .i64 x.val.k, .int .i64 x.val.i, .bool x.val.b, .string x.val.s, .float .f64 x.val.n] 27)).block w.heap.size (Array.getElem?_eq_some_iff.1 hz).1).trans hz
    have hon : Only g w wA := ⟨htA.os.trans HB.out.os, htA.tape.trans HB.out.tape, htA.output.trans HB.out.output, Nat.le_trans HB.out.size htA.size, fun m hm h1 => (htA.block m (by simp; omega) (fun e => h1 (by rw [e])) (by omega)).trans (HB.out.block m hm)⟩
    have hex2 : ExS (fun b => w.heap.size < b) (wA.alloc (.cells #[.int .i64 x.op, .slice A' x.kids.length c', .string x.name, .int .i64 x.val.k, .int .i64 x.val.i, .bool x.val.b, .string x.val.s, .float .f64 x.val.n] 27)) 6 A' c' x := hex.move (fun b hb hl => ⟨(alloc1 wA (.cells #[.int .i64 x.op, .slice A' x.kids.length c', .string x.name, .int .i64 x.val.k, .int .i64 x.val.i, .bool x.val.b, .string x.val.s, .float .f64 x.val.n] 27)).block b hl, by simp at hb; omega⟩) (alloc1 wA (.cells #[.int .i64 x.op, .slice A' x.kids.length c', .string x.name, .int .i64 x.val.k, .int .i64 x.val.i, .bool x.val.b, .string x.val.s, .float .f64 x.val.n] 27)).size
    have hg5 : g ≠ wA.heap.size := Nat.ne_of_lt hrA.lt
    have HZ := Lib.hid hz2
    have HEX := Lib.hid hex2
    have HRA := Lib.hid (hrA.below (alloc1 wA (.cells #[.int .i64 x.op, .slice A' x.kids.length c', .string x.name, .int .i64 x.val.k, .int .i64 x.val.i, .bool x.val.b, .string x.val.s, .float .f64 x.val.n] 27)))
    have HON := Lib.hid (hon.below (alloc1 wA (.cells #[.int .i64 x.op, .slice A' x.kids.length c', .string x.name, .int .i64 x.val.k, .int .i64 x.val.i, .bool x.val.b, .string x.val.s, .float .f64 x.val.n] 27)))
    have HNB := Lib.hid (heap_alloc_new wA (.cells #[.int .i64 x.op, .slice A' x.kids.length c', .string x.name, .int .i64 x.val.k, .int .i64 x.val.i, .bool x.val.b, .string x.val.s, .float .f64 x.val.n] 27))
    clear hrA htA hz hz2 hon HCE hc0 hc1 hf hgl hex hex2
    go_upto_region 5 with fail
    generalize wA.alloc (.cells #[.int .i64 x.op, .slice A' x.kids.length c', .string x.name, .int .i64 x.val.k, .int .i64 x.val.i, .bool x.val.b, .string x.val.s, .float .f64 x.val.n] 27) = wB at *
    generalize wA.heap.size = b5 at *
    have v0 := (heap_at (HZ.out) 0).trans (rfl : _ = some (Value.int .i64 0))
    have v1 := (heap_at (HZ.out) 1).trans (rfl : _ = some (Value.slice none 0 0))
    have v2 := (heap_at (HZ.out) 2).trans (rfl : _ = some (Value.string ⟨#[]⟩))
    have v3 := (heap_at (HZ.out) 3).trans (rfl : _ = some (Value.int .i64 0))
    have v4 := (heap_at (HZ.out) 4).trans (rfl : _ = some (Value.int .i64 0))
    have v5 := (heap_at (HZ.out) 5).trans (rfl : _ = some (Value.bool false))
    have v6 := (heap_at (HZ.out) 6).trans (rfl : _ = some (Value.string ⟨#[]⟩))
    have v7 := (heap_at (HZ.out) 7).trans (rfl : _ = some (Value.float .f64 0))
    have x0 := (heap_at (HNB.out) 0).trans (rfl : _ = some (Value.int .i64 x.op))
    have x1 := (heap_at (HNB.out) 1).trans (rfl : _ = some (Value.slice A' x.kids.length c'))
    have x2 := (heap_at (HNB.out) 2).trans (rfl : _ = some (Value.string x.name))
    have x3 := (heap_at (HNB.out) 3).trans (rfl : _ = some (Value.int .i64 x.val.k))
    have x4 := (heap_at (HNB.out) 4).trans (rfl : _ = some (Value.int .i64 x.val.i))
    have x5 := (heap_at (HNB.out) 5).trans (rfl : _ = some (Value.bool x.val.b))
    have x6 := (heap_at (HNB.out) 6).trans (rfl : _ = some (Value.string x.val.s))
    have x7 := (heap_at (HNB.out) 7).trans (rfl : _ = some (Value.float .f64 x.val.n))
    have vf := heap_free (HZ.out)
    have vl : w.heap.size < wB.heap.size := (Array.getElem?_eq_some_iff.1 (HZ.out)).1
    go_wp2
    exact bodyPost_ret (v := .tuple #[agX x.op A' x.kids.length c' x.name x.val, .int .i64 0]) (by simp [results, Tryz.results14, go_sem, v0, v1, v2, v3, v4, v5, v6, v7, vl]) rfl (GxO.mk (x := x) HEX.out HRA.out HON.out HZ.out (Nat.le_refl _) hgb _ _ _ _ _ _ _ _)
/-- Get of the program -/
theorem eGet_any (g : Nat) (rest : List UInt8) (e : Int) (w : World) (hr : RdR w g rest e) (hlen : rest.length ≤ 1000000000000) : Calls Tryz.prog 14 #[.pointer (some ⟨g, 0, none⟩)] w (GxP g (getXE rest e) w) := by
  by_cases he : e = 0
  · subst he
    rw [show getXE rest 0 = getX 6 24 rest from if_pos rfl]
    exact eGet_walk g rest 0 _ (fun er h => getX_er 6 24 rest er h) w hr fun s W hgs h1 h2 => eReadParts_any g s hgs 6 24 1 rest W (by omega) (by decide) (by decide) (by decide) h1 h2 hlen
  · rw [show getXE rest e = .error e from if_neg he]
    exact eGet_walk g rest e (.error e) (fun er h => by injection h with h; exact h ▸ he) w hr fun s W hgs h1 h2 => readParts_late g s hgs e he rest W h1 h2 hlen
end Go.Proofs.YtkhpgejammgolaaGreat

/- Layer 5: ExprBack. -/
namespace Go.Proofs.YtkhpgejammgolaaGreat
open Go.RowKit
set_option linter.unusedVariables false
set_option linter.unusedSimpArgs false
set_option maxRecDepth 20000

theorem own_baseX {w : World} {base base' : Nat} {e : TypeId} {size : Nat} {v : Value} {n : Nat} {xs : List Value} (h : w.ownsRow base e size v n xs) (hb : base' ≤ base) : w.ownsRow base' e size v n xs :=
  ⟨h.1, h.2.imp id fun ⟨g, cap, cur, h1, h2, h3⟩ => ⟨g, cap, cur, h1, Nat.le_trans hb h2, h3⟩⟩
theorem size_list (s : ByteArray) : s.data.toList.length = s.size := by cases s; simp [ByteArray.size]
theorem shX_form : ∀ d e, formX d e → shX d e
  | 0, _, _ => trivial
  | d + 1, e, h => by
    obtain ⟨h1, h2, h3, h4, h5, h6⟩ := h
    refine ⟨by omega, ?_, fun k hk => shX_form d k (h6 k hk)⟩
    rcases h3 with h3 | h3
    · unfold goodV at h3
      simp only [Bool.and_eq_true, decide_eq_true_eq] at h3
      have h7 := h3.1.1.1.1.2
      rw [size_list]
      omega
    · rw [h3]
      show (⟨#[]⟩ : ByteArray).data.toList.length ≤ 1000
      simp
theorem check_small {e : Ex} {fs : List Fd} {k : Int} (h : checkX e fs = (k, 0)) : smallX e = true ∧ chkX 6 e fs = (k, 0) := by
  unfold checkX at h
  cases hs : smallX e with
  | true => rw [hs, if_pos rfl] at h; exact ⟨rfl, h⟩
  | false =>
    rw [hs, if_neg (by decide)] at h
    injection h with h1 h2
    cases h2
theorem form_back {e : Ex} {fs : List Fd} {k : Int} (hf : ∀ f ∈ fs, f.name.data.toList.length ≤ 16) (hok : okX 6 e) (h : checkX e fs = (k, 0)) : smallX e = true ∧ formX 6 e := by
  obtain ⟨h1, h2⟩ := check_small h
  exact ⟨h1, formX_of fs hf 6 e k hok ((smallX_iff e).1 h1).1 h2⟩
theorem txt_small {e : Ex} (h : smallX e = true) (hs : shX 6 e) : txtX 6 e := by
  obtain ⟨h1, h2⟩ := (smallX_iff e).1 h
  exact txtX_of 6 e h1 (by omega) hs
theorem get_back {e : Ex} (l : List UInt8) (h : smallX e = true) (hf : formX 6 e) : getXE (putE e ++ l) 0 = .ok (normX 6 e, 24 - sizeX 6 e, l) := by
  obtain ⟨h1, h2⟩ := (smallX_iff e).1 h
  have hp : putE e = putX 6 e := if_pos h
  rw [show getXE (putE e ++ l) 0 = getX 6 24 (putE e ++ l) from if_pos rfl, hp]
  exact getX_back 6 e 24 l hf (by omega)
theorem small_norm {e : Ex} (h : smallX e = true) : smallX (normX 6 e) = true := by
  obtain ⟨h1, h2⟩ := (smallX_iff e).1 h
  exact (smallX_iff _).2 ⟨normX_deep 6 e h1, by rw [normX_size]; exact h2⟩

set_option maxHeartbeats 4000000 in
theorem ExprBack_any (FA : Option Addr) (FC : Nat) (fs : List Fd) (VA : Option Addr) (VC : Nat) (vs : List Vl) (D : Nat) (e : Ex) (A : Option Addr) (c : Nat) (bv : Value) (bl : List UInt8) (w : World) (hx : ExK w D A c e) (hf : FdK w FA FC fs) (hv : VlK w VA VC vs) (hok : okX 6 e) (hvs : ∀ v ∈ vs, okV v) (hb : Bs w bv bl) (awk : ∀ W, Calls Tryz.prog 22 #[] W (VMk (.bool true) W)) :
    Calls Tryz.prog 4 #[agX e.op A e.kids.length c e.name e.val, .agg #[.slice FA fs.length FC, .slice VA vs.length VC], bv] w (VMk (.bool true) w) := by
  obtain ⟨i0, hi, hz0, hz1, hz2⟩ := info_parts u8info
  have hsf := fun (w : World) (a : Addr) (m : Mode) (b : Nat) => run_store Tryz.prog w a (.float .f64 b) m rfl
  have FEW := Lib.hid (fun W (hb : Below w.heap.size w W) => few5_any FA FC fs VA VC vs W (hf.below hb (Nat.le_refl _)) (hv.below hb (Nat.le_refl _)))
  have hchk := (fun W (hb : Below w.heap.size w W) => eCheck_any FA FC fs D e A c W (hx.below hb (Nat.le_refl _)) (hf.below hb (Nat.le_refl _)))
  have hput := (fun (h : smallX e = true → txtX 6 e) W (hb : Below w.heap.size w W) => ePut_any D e A c (.slice none 0 0) [] W (hx.below hb (Nat.le_refl _)) h hok (Bs.nil W) (by simp))
  have SAME := Lib.hid (fun (hd : deepX 6 e) f B cb W (hb : Below w.heap.size w W) (hy : ExK W 6 B cb f) => rSameX_any D 6 6 e f A B c cb W (hx.below hb (Nat.le_refl _)) hy hd)
  have SML := Lib.hid (fun f B cb W (hy : ExK W 6 B cb f) => rSmall_any 6 f B cb W hy)
  have hpure := fun k (hfs : ∀ f ∈ fs, f.name.data.toList.length ≤ 16) (h : checkX e fs = (k, 0)) => (form_back (k := k) hfs hok h)
  have HF := Lib.hid hf
  have AWK := Lib.hid awk
  have HBV := Lib.hid hb
  clear awk hx hf hv hok hvs hb
  generalize checkX e fs = ck at hchk hpure
  obtain ⟨k, x⟩ := ck
  have CHK := Lib.hid hchk
  have PUT := Lib.hid hput
  have PURE := Lib.hid hpure
  clear hchk hput hpure
  have hbl : ∃ A2 c2, bv = .slice A2 bl.length c2 := by obtain ⟨A2, c2, h, -⟩ := HBV.out.open; exact ⟨A2, c2, h⟩
  obtain ⟨A2, c2, rfl⟩ := hbl
  generalize hev0 : e = e0 at SAME PUT PURE
  subst hev0
  obtain ⟨eop, hop⟩ : ∃ o, o = e.op := ⟨_, rfl⟩
  obtain ⟨enm, hnm⟩ : ∃ o, o = e.name := ⟨_, rfl⟩
  obtain ⟨ev, hvl⟩ : ∃ o, o = e.val := ⟨_, rfl⟩
  obtain ⟨n, hkl⟩ : ∃ o, o = e.kids.length := ⟨_, rfl⟩
  simp only [← hop, ← hnm, ← hvl, ← hkl] at SAME PUT CHK ⊢
  clear hop hnm hvl hkl
  have hbn := Lib.hid (SB.new w FA fs.length FC VA vs.length VC eop A n c enm ev 48)
  go_enter Tryz.func4, Tryz.ntmps4
  go_wp2_with fail
  refine (FEW.out _ hbn.out.bel).mono ?_
  rintro _ w1 ⟨bb, rfl, hb1, hfew⟩
  have S1 := Lib.hid (hbn.out.below hb1)
  clear hbn hb1
  rcases bb with _ | _
  · clear hfew
    go_wp2
    go_ret
    exact ⟨rfl, S1.out.bel⟩
  have hl := hfew rfl
  clear hfew
  have HFW := Lib.hid hl
  have hl20 : fs.length ≤ 20 := hl.1
  clear hl
  by_cases hlong : 1000 < bl.length
  · have hlI : (1000 : Int) < (bl.length : Int) := by omega
    clear hlong
    go_wp2
    go_ret
    exact ⟨rfl, S1.out.bel⟩
  have hlI : ¬ (1000 : Int) < (bl.length : Int) := by omega
  have HLB := Lib.hid hlong
  clear hlong
  have sf := S1.out.f
  go_wp2
  go_loopw [7] (fun i wr => ∃ k : Nat, k ≤ fs.length ∧ i = .int .i64 k ∧ (∀ (j : Nat) (hj : j < fs.length), j < k → fs[j].name.size ≤ 16) ∧ SB w FA fs.length FC VA vs.length VC eop A n c enm ev wr) (fun i _ => fs.length - (intOf i).toNat)
  case atStart => exact ⟨0, Nat.zero_le _, rfl, fun j hj h => absurd h (Nat.not_lt_zero _), S1.out⟩
  case round =>
    clear sf
    obtain ⟨j, hj, rfl, hdone, hs⟩ := hrel
    have S2 := Lib.hid hs
    have HDONE := Lib.hid hdone
    clear hs hdone
    have sf := S2.out.f
    by_cases hlt : j < fs.length
    · obtain ⟨ad, A', n', c', y, rfl, hbl2, hfd⟩ := HF.out.2.2.2 j hlt
      obtain ⟨f0, -⟩ := hfd.below S2.out.bel (by rw [block_add]; exact hbl2)
      have hltI : (j : Int) < (fs.length : Int) := by omega
      have hnext : fs[j].name.size ≤ 16 → ∀ (i : Nat) (hi : i < fs.length), i < j + 1 → fs[i].name.size ≤ 16 := fun h i hi hij => by
        by_cases e : i < j
        · exact HDONE.out i hi e
        · obtain rfl : i = j := by omega
          exact h
      have HN := Lib.hid hnext
      clear hnext hfd
      generalize fs[j].name = fnm at f0 HN
      by_cases h16 : 16 < fnm.size
      · have h16I : (16 : Int) < (fnm.size : Int) := by omega
        clear h16
        go_wp2_with (go_at_call 22; refine (AWK.out _).mono ?_; rintro _ w3 ⟨rfl, hb3⟩)
        go_ret
        exact ⟨rfl, (S2.out.below hb3).bel⟩
      · have h16I : ¬ (16 : Int) < (fnm.size : Int) := by omega
        have HN2 := Lib.hid (HN.out (by omega))
        clear h16 HN
        go_wp2
        go_roundw
        case rel => exact ⟨j + 1, by omega, by go_num, HN2.out, S2.out⟩
        case measure => simp [intOf]; omega
    · have hltI : ¬ (j : Int) < (fs.length : Int) := by omega
      have hfs : ∀ f ∈ fs, f.name.data.toList.length ≤ 16 := fun f hf => by
        obtain ⟨i, hi, rfl⟩ := List.getElem_of_mem hf
        rw [size_list]
        exact HDONE.out i hi (by omega)
      have HFS := Lib.hid hfs
      clear hfs HDONE
      obtain ⟨d0, d1, d2, d3, d4, d5, d6, d7⟩ := S2.out.ex
      go_wp2_with fail
      refine (CHK.out _ S2.out.bel).mono ?_
      rintro _ w3 ⟨rfl, hb3⟩
      clear d0 d1 d2 d3 d4 d5 d6 d7 sf
      have S3 := Lib.hid (S2.out.below hb3)
      clear S2 hb3 CHK
      by_cases hx0 : ¬ x = 0
      · have hxb : (x != 0) = true := by simpa using hx0
        clear hx0
        go_wp2_with (go_at_call 22; refine (AWK.out _).mono ?_; rintro _ w4 ⟨rfl, hb4⟩)
        go_ret
        exact ⟨rfl, (S3.out.below hb4).bel⟩
      replace hx0 := Decidable.not_not.1 hx0
      subst hx0
      have hxb : (((0 : Int)) != 0) = false := rfl
      obtain ⟨hsm, hfm⟩ := PURE.out k HFS.out rfl
      have htx := txt_small hsm (shX_form 6 e hfm)
      have hle := putE_le e (fun _ => htx)
      have hgb := get_back bl hsm hfm
      have hsn := small_norm hsm
      have hse := sameX_norm 6 e
      have hdp := ((smallX_iff e).1 hsm).1
      have PT := Lib.hid (PUT.out (fun _ => htx))
      have SM2 := Lib.hid (SAME.out hdp)
      clear PURE PUT SAME hdp htx hsm hfm
      generalize putE e = pe at *
      generalize hnx : normX 6 e = f at *
      clear hnx
      have HGB := Lib.hid hgb
      have HSN := Lib.hid hsn
      have HSE := Lib.hid hse
      have HLE := Lib.hid hle
      clear hgb hsn hse hle hxb
      have hxb : (((0 : Int)) != 0) = false := rfl
      obtain ⟨d0, d1, d2, d3, d4, d5, d6, d7⟩ := S3.out.ex
      go_wp2_with fail
      refine (PT.out _ S3.out.bel).mono ?_
      rintro _ w4 ⟨v4, B4, rfl, hB4, ho4, hb4⟩
      clear d0 d1 d2 d3 d4 d5 d6 d7
      rw [List.nil_append] at ho4
      have HO4 := Lib.hid (own_baseX ho4 hB4)
      have HB4 := Lib.hid hb4
      have HV4 := Lib.hid (Rd.below HBV.out (S3.out.bel.trans (hb4.mono S3.out.bel.size)) (Nat.le_refl _))
      have hq1 : pe.length + (bl.map bc).length ≤ maxLen := by have := HLE.out; have := HLB.out; simp only [List.length_map]; unfold maxLen; omega
      have hq2 : (pe.length + (bl.map bc).length) * 1 ≤ 140737488355328 := by have := HLE.out; have := HLB.out; simp only [List.length_map]; omega
      have HQ := Lib.hid (And.intro hq1 hq2)
      have hln : (pe ++ bl).length ≤ 60000 := by have := HLE.out; have := HLB.out; rw [List.length_append]; omega
      have HLN := Lib.hid hln
      clear ho4 hb4 hB4 hq1 hq2 hln
      go_wp2_with (at_builtin; refine wpList_append_rd _ rfl _ _ 28 rfl w3.heap.size 5 i0 (.int .u8 0) 1 Tryz.underlying28 hi hz0 hz1 hz2 rfl _ _ _ rfl HO4.out _ _ rfl HV4.out (bc_one bl) HQ.out.1 HQ.out.2 HB4.out.size ?_; intro v5 w5 hown5 hgr5; have HB5 := Lib.hid (HB4.out.grown hgr5 HB4.out.size (fun k hk => (HO4.out.lt k hk).1)); rw [← List.map_append] at hown5; have HV5 := Lib.hid (own_nilrow (w' := w5) hown5); clear hown5 hgr5)
      refine (New_any v5 (pe ++ bl) w5 HV5.out (by have := HLN.out; omega)).mono ?_
      rintro _ w6 ⟨g, rfl, hg5, hr6, hb6⟩
      have HB6 := Lib.hid (HB5.out.trans (hb6.mono HB5.out.size))
      have HG5 := Lib.hid (Nat.le_trans HB5.out.size hg5)
      have hget := eGet_any g (pe ++ bl) 0 w6 hr6 (by have := HLN.out; omega)
      rw [HGB.out] at hget
      have HGET := Lib.hid (show Calls _ _ _ _ (GxO g (f, _, bl) w6) from hget)
      clear hg5 hr6 hb6 hget HGB
      go_wp2_with fail
      refine HGET.out.mono ?_
      rintro _ w7 ⟨Af, cf, rfl, hex7, hr7, ho7⟩
      have HB7 := Lib.hid (HB6.out.trans (ho7.to_below HB6.out.size HG5.out))
      have hk8 := Kid_new w7 f.op Af f.kids.length cf f.name f.val
      have ha8 := alloc1 w7 (bxX f.op Af f.kids.length cf f.name f.val)
      have HK8 := Lib.hid hk8
      have HX8 := Lib.hid (hex7.exk.below ha8 (Nat.le_refl _))
      have HR8 := Lib.hid (hr7.below ha8)
      have HB8 := Lib.hid (HB7.out.trans (ha8.mono HB7.out.size))
      clear hex7 hr7 ho7 hk8 ha8
      obtain ⟨x0, x1, x2, x3, x4, x5, x6, x7⟩ := HK8.out
      go_upto_region 13 with fail
      generalize w7.alloc (bxX f.op Af f.kids.length cf f.name f.val) = w8 at *
      generalize w7.heap.size = b8 at *
      have h00 : ((0 : Int) == 0) = true := rfl
      go_wp2_with fail
      have hsm := SML.out f Af cf w8 HX8.out
      rw [HSN.out] at hsm
      refine hsm.mono ?_
      rintro _ w9 ⟨rfl, hb9⟩
      clear x0 x1 x2 x3 x4 x5 x6 x7 hsm
      have HB9 := Lib.hid (HB8.out.trans (hb9.mono HB8.out.size))
      have HK9 := Lib.hid (HK8.out.below hb9)
      have HX9 := Lib.hid (HX8.out.below hb9 (Nat.le_refl _))
      have HR9 := Lib.hid (HR8.out.below hb9)
      clear hb9
      obtain ⟨x0, x1, x2, x3, x4, x5, x6, x7⟩ := HK9.out
      obtain ⟨d0, d1, d2, d3, d4, d5, d6, d7⟩ := (S3.out.below HB9.out).ex
      go_wp2_with fail
      have hsa := SM2.out f Af cf w9 (S3.out.below HB9.out).bel HX9.out
      rw [HSE.out] at hsa
      refine hsa.mono ?_
      rintro _ w10 ⟨rfl, hb10⟩
      clear x0 x1 x2 x3 x4 x5 x6 x7 d0 d1 d2 d3 d4 d5 d6 d7 hsa
      have HB10 := Lib.hid (HB9.out.trans (hb10.mono HB9.out.size))
      have HR10 := Lib.hid (HR9.out.below hb10)
      clear hb10
      go_wp2_with fail
      refine (Left_any g bl 0 w10 HR10.out).mono ?_
      rintro _ w' ⟨rfl, rfl⟩
      have hbb : ((bl.length : Int) == (bl.length : Int)) = true := by simp
      go_wp2_with fail
      refine (AWK.out _).mono ?_
      rintro _ w11 ⟨rfl, hb11⟩
      go_wp2
      go_ret
      exact ⟨rfl, ((S3.out.below HB10.out).below hb11).bel⟩
end Go.Proofs.YtkhpgejammgolaaGreat
