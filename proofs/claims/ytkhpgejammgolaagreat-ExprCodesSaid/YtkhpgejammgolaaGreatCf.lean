/- Cf: ERFit ESound RefC VGet VGet2 VRGet VBeside VPut VROrd VREq VTwo VCodes TOf VBackLaw EByt EPut ERSmall ERPut ERows ERows2 EKid ERSame EGet1 EGet2 EGet3 (made by shake.py). -/
import Derived.Deep.CutRange
import Derived.Deep.RegionHeld3
import Derived.Test.YtkhpgejammgolaaGreatCe
/- Layer 5: do values fit fields, by the program and by the document. (Made by gen/genfit.py.) -/
namespace Go.Proofs.YtkhpgejammgolaaGreat
open Go.RowKit
set_option linter.unusedVariables false
set_option linter.unusedSimpArgs false
set_option maxRecDepth 20000

end Go.Proofs.YtkhpgejammgolaaGreat

/- Layer 5: ExprSound. -/
namespace Go.Proofs.YtkhpgejammgolaaGreat
open Go.RowKit
set_option linter.unusedVariables false
set_option linter.unusedSimpArgs false
set_option maxRecDepth 20000

/-- a law's two boxes: the expression, the scope -/
structure SB (w : World) (FA : Option Addr) (fn FC : Nat) (VA : Option Addr) (vn VC : Nat) (op : Int) (A : Option Addr) (n c : Nat) (nm : ByteArray) (v : Vl) (W : World) : Prop where
  bel : Below w.heap.size w W
  ex : CellsX W w.heap.size op A n c nm v
  f : W.cell? ⟨w.heap.size + 1, 0, none⟩ = some (.slice FA fn FC)
  v : W.cell? ⟨w.heap.size + 1, 1, none⟩ = some (.slice VA vn VC)
  lt : w.heap.size + 2 ≤ W.heap.size
theorem SB.below {w : World} {FA : Option Addr} {fn FC : Nat} {VA : Option Addr} {vn VC : Nat} {op : Int} {A : Option Addr} {n c : Nat} {nm : ByteArray} {v : Vl} {W W' : World} (h : SB w FA fn FC VA vn VC op A n c nm v W) (hb : Below W.heap.size W W') : SB w FA fn FC VA vn VC op A n c nm v W' :=
  ⟨h.bel.trans (hb.mono h.bel.size), h.ex.below hb, keepc hb (by have := h.lt; omega) h.f, keepc hb (by have := h.lt; omega) h.v, Nat.le_trans h.lt hb.size⟩
theorem SB.new (w : World) (FA : Option Addr) (fn FC : Nat) (VA : Option Addr) (vn VC : Nat) (op : Int) (A : Option Addr) (n c : Nat) (nm : ByteArray) (v : Vl) (t : TypeId) :
    SB w FA fn FC VA vn VC op A n c nm v ((w.alloc (bxX op A n c nm v)).alloc (.cells #[.slice FA fn FC, .slice VA vn VC] t)) := by
  have h2 := heap_alloc_new (w.alloc (bxX op A n c nm v)) (.cells #[.slice FA fn FC, .slice VA vn VC] t)
  have hs : (w.alloc (bxX op A n c nm v)).heap.size = w.heap.size + 1 := by simp
  rw [hs] at h2
  exact ⟨vbox2 w _ _, (Kid_new w op A n c nm v).below (alloc1 _ _), (cell_of_row _ _ 0 _ _ (0, 0) h2).trans rfl, (cell_of_row _ _ 1 _ _ (0, 0) h2).trans rfl, by simp⟩
end Go.Proofs.YtkhpgejammgolaaGreat

/- The document's reader: rows of bytes. -/
namespace Go.Proofs.YtkhpgejammgolaaGreat
open Go.RowKit
set_option linter.unusedVariables false
set_option maxRecDepth 20000

/-- what Bytes of the document's reader leaves: the row lies in new memory -/
def DidRN (h : Nat) (l rest : List UInt8) (err : Int) (w : World) (e : Ending) (w' : World) : Prop := ∃ v, e = .returned v ∧ Bs w' v l ∧ RfS w' h rest err ∧ Only h w w' ∧ New w.heap.size v

set_option maxHeartbeats 1000000 in
theorem rfBytes_any (h : Nat) (rest : List UInt8) (e : Int) (most : Int) (h0 : -9223372036854775808 ≤ most) (h9 : most ≤ 9223372036854775807) (w : World) (hr : RfS w h rest e) :
    Calls Tryz.prog 86 #[.pointer (some ⟨h, 0, none⟩), .int .i64 most] w
      (DidRN h (bytesF most rest e).1 (bytesF most rest e).2.1 (bytesF most rest e).2.2 w) := by
  obtain ⟨i0, hi0, hz0, hz1, hz2⟩ := info_parts u8info
  obtain ⟨bs, i, hr, rfl⟩ := hr
  have hcount := rfCount_at h bs i e most h0 h9 w hr
  obtain ⟨A, c, -, -, -, hi, h99, hc0, hc1, hc2, hf, hlt, -⟩ := hr.open
  by_cases hs : (stepF 4 (alCount most) (bs.drop i) e).2.2 = 0
  · obtain ⟨rfl, h4, -, -⟩ := stepF_ok hs
    by_cases hn : (bs.drop i).length - 4 < (stepF 4 (alCount most) (bs.drop i) 0).1
    · rw [bytesF_short most _ hs hn]
      have hd : (bs.drop i).length - 4 = ((stepF 4 (alCount most) (bs.drop i) 0).2.1).length := by obtain ⟨-, -, -, h5⟩ := stepF_ok hs; rw [h5]; simp only [List.length_drop]
      generalize stepF 4 (alCount most) (bs.drop i) 0 = s at *
      obtain ⟨n, r2, e2⟩ := s
      simp only at hs hcount hn hd ⊢
      subst hs
      have hb1 : ((0 : Int) == 0) = true := rfl
      have HC := Lib.hid hcount
      rw [hd] at hn
      clear hcount hc0 hc2 hf hd h4
      go_enter Tryz.func86, Tryz.ntmps86
      go_wp2_with (go_at_call 96; refine HC.out.mono ?_; rintro e w1 ⟨rfl, ⟨i', hr1, hd1⟩, ho1⟩; obtain ⟨A1, c1, -, -, -, hi1, -, hd0, hd1', hd2, hf1, hlt1, -⟩ := hr1.open; have hn1 : (bs.length : Int) - i' < n := by rw [← hd1, List.length_drop] at hn; omega)
      go_quiet (fail)
      go_wp2
      go_ret
      exact ⟨_, rfl, Bs.nil _, ⟨bs, i, ((hr1.drewN _).setErr 10).setAt i hi, rfl⟩, ((Only.below ho1 (below_drewN (Below.refl _ _) _)).set _ _).set _ _, New.nil _⟩
    · rw [bytesF_good most _ hs (by omega)]
      have hd : (bs.drop i).length - 4 = ((stepF 4 (alCount most) (bs.drop i) 0).2.1).length ∧ (stepF 4 (alCount most) (bs.drop i) 0).2.1 = (bs.drop i).drop 4 := by obtain ⟨-, -, -, h5⟩ := stepF_ok hs; rw [h5]; exact ⟨by simp only [List.length_drop], rfl⟩
      rw [← hd.2]
      replace hd := hd.1
      generalize stepF 4 (alCount most) (bs.drop i) 0 = s at *
      obtain ⟨n, r2, e2⟩ := s
      simp only at hs hcount hn hd ⊢
      subst hs
      have hb1 : ((0 : Int) == 0) = true := rfl
      have hb2 : ((0 : Int) != 0) = false := rfl
      have HC := Lib.hid hcount
      rw [hd] at hn
      have hbs : bs ≠ [] := by rintro rfl; simp at h4
      clear hcount hc0 hc2 hf hd h4
      go_enter Tryz.func86, Tryz.ntmps86
      go_wp2_with (go_at_call 96; refine HC.out.mono ?_; rintro e w1 ⟨rfl, ⟨i', hr1, hd1⟩, ho1⟩; obtain ⟨A1, c1, hbv, hc1c, hmx, hi1, h999, hd0, hd1', hd2, hf1, hlt1, hx1⟩ := hr1.open; obtain ⟨ad, rfl, -⟩ := hx1 hbs; clear hx1; have hn1 : n ≤ bs.length - i' := by rw [← hd1, List.length_drop] at hn; omega)
      go_quiet (fail)
      go_wp2
      obtain ⟨hin, -, hm1, hm2⟩ := cut_len bs i' n hn1 hi1 h999
      obtain ⟨hw', hk0, hk1, hk2⟩ := cut_facts i' n bs.length c1 hin hc1c h999
      have hsc := run_cut ad bs.length c1 i' n (Nat.le_trans hin hc1c)
      have hmax : n ≤ 1000000000000 := Nat.le_trans (Nat.le_trans (Nat.le_add_left _ _) hin) h999
      obtain ⟨w2, hw2⟩ : ∃ w2, w2 = w1.drewN nq := ⟨_, rfl⟩
      rw [← hw2]
      have hr2 : RfG w2 h bs i' 0 := by rw [hw2]; exact hr1.drewN nq
      have ho2 : Only h w w2 := by rw [hw2]; exact Only.below ho1 (below_drewN (Below.refl _ _) _)
      have hl2 := hr2.lt
      have hsl : Bs w2 (.slice (some (if c1 = i' then ad else ad.add i')) n (c1 - i')) ((bs.drop i').take n) := by
        rw [hw2]
        exact Bs.take (Bs.drop (Rd.drewN hbv nq) hi1) (by rw [List.length_drop]; exact hn1)
      have hq0 : w2.cell? ⟨h, 0, none⟩ = some (.slice (some ad) bs.length c1) := by rw [hw2]; exact hd0
      have hq1 : w2.cell? ⟨h, 1, none⟩ = some (.int .i64 i') := by rw [hw2]; exact hd1'
      clear hd0 hd1' hd2 hf1 hlt1 hr1 hbv hw2 ho1 hr hlt hc1
      have hsa : ∀ w, (Instr.sliceAt 28 (.slice (some ad) bs.length c1) (some (.int .i64 (i' : Int))) (some (.int .i64 ((i' : Int) + n))) none).run Tryz.prog w = .ok (.slice (some (if c1 = i' then ad else ad.add i')) n (c1 - i')) w := fun w => (run_sliceAt_slice (P := Tryz.prog) w _ _ _ _ _ Tryz.underlying28).trans (hsc w)
      obtain ⟨AD, hAD⟩ : ∃ AD, AD = if c1 = i' then ad else ad.add i' := ⟨_, rfl⟩
      rw [← hAD] at hsl hsc hsa
      have HSL := Lib.hid hsl
      have HM1 := Lib.hid hm1
      have HM2 := Lib.hid hm2
      have HN1 := Lib.hid hn1
      have HI1 := Lib.hid hi1
      clear hsl hm1 hm2 hAD hk0 hk1 hk2 hn1 hi1 HC hc1c h999 hmx hn hbs h99
      have hS0 : Below w2.heap.size w2 w2.drew ∧ w2.drew.cell? ⟨h, 0, none⟩ = some (.slice (some ad) bs.length c1) ∧ w2.drew.cell? ⟨h, 1, none⟩ = some (.int .i64 i') := ⟨(Below.refl _ _).drew, hq0, hq1⟩
      have hEmpty := own_empty w2.drew 5 w2.heap.size w2.heap.size (Nat.le_refl _) rfl
      have hEB : Below w2.heap.size w2 (w2.drew.alloc (.cells #[] 5)) := ((Below.refl w2.heap.size w2).drew).alloc (Nat.le_refl _) _
      have hEK := keep2_alloc (o := .cells #[] 5) hS0 hl2
      go_region_held3 (fun W => Below w2.heap.size w2 W ∧ W.cell? ⟨h, 0, none⟩ = some (.slice (some ad) bs.length c1) ∧ W.cell? ⟨h, 1, none⟩ = some (.int .i64 i')) (first | assumption | exact hS0 | exact hlater | exact keep2_alloc (by assumption) hl2) (first | (refine step_append_rd rfl (.tmp 46) (.tmp 61) 28 rfl w2.heap.size 5 i0 (.int .u8 0) 1 Tryz.underlying28 hi0 hz0 hz1 hz2 rfl _ 0 [] rfl hEmpty _ _ rfl (Rd.below HSL.out hEB (Nat.le_refl _)) (bc_one _) HM1.out HM2.out hEB.size ?_; intro v3 w3 hown3 hg3 ho3; have hlater := keep2 (W' := w3) hEK hl2 (((Below.refl w2.heap.size _).grown hg3 hEB.size (by intro k h; injection h with h; exact Nat.le_of_eq h)))))
      have hS : Below w2.heap.size w2 w3 ∧ w3.cell? ⟨h, 0, none⟩ = some (.slice (some ad) bs.length c1) ∧ w3.cell? ⟨h, 1, none⟩ = some (.int .i64 i') := by assumption
      have hr3 := hr2.below hS.1
      obtain ⟨A3, c3, -, -, -, -, -, he0, he1, -, hf3, hl3, -⟩ := hr3.open
      have hb3 : Bs w3 v3 ((bs.drop i').take n) := Rd.of_own (by simpa using hown3)
      have hnw3 : New w.heap.size v3 := (New.of_own hown3).mono ho2.size
      have ho3 := Only.below ho2 hS.1
      have hin' : ((i' : Int) + n) = ((i' + n : Nat) : Int) := by rw [Int.natCast_add]
      have HIN' := Lib.hid hin'
      clear hin' hown3 hg3 hEK hEB hEmpty hS0 hq0 hq1 hsc hsa hS
      go_wp2
      go_ret
      refine ⟨_, rfl, by rw [← hd1]; exact hr3.keepBs hb3 _ _, ⟨bs, i' + n, ?_, by rw [← hd1, List.drop_drop]⟩, ho3.set _ _, hnw3⟩
      rw [HIN'.out]
      exact hr3.setAt (i' + n) hin
  · rw [bytesF_err most _ e hs]
    generalize stepF 4 (alCount most) (bs.drop i) e = s at *
    obtain ⟨n, r2, e2⟩ := s
    simp only at hs hcount ⊢
    have hb1 : (e2 == 0) = false := by simpa using hs
    have hb2 : (e2 != 0) = true := by simpa using hs
    have HC := Lib.hid hcount
    clear hcount hs hc0 hc2 hf
    go_enter Tryz.func86, Tryz.ntmps86
    go_wp2_with (go_at_call 96; refine HC.out.mono ?_; rintro e w1 ⟨rfl, ⟨i', hr1, hd1⟩, ho1⟩; obtain ⟨A1, c1, -, -, -, -, -, hd0, hd1', hd2, hf1, hlt1, -⟩ := hr1.open)
    go_quiet (fail)
    go_wp2
    go_ret
    exact ⟨_, rfl, Bs.nil _, ⟨bs, i', hr1.drewN _, hd1⟩, Only.below ho1 (below_drewN (Below.refl _ _) _), New.nil _⟩
end Go.Proofs.YtkhpgejammgolaaGreat

/- Layer 4: values out of bytes, by the program. (Made by gen/genvget.py.) -/
namespace Go.Proofs.YtkhpgejammgolaaGreat
open Go.RowKit
set_option linter.unusedVariables false
set_option linter.unusedSimpArgs false
set_option maxRecDepth 20000

/-- 4.5: what stands there as it is read, what is left, the reader's error -/
def readF (rest : List UInt8) (e : Int) : Vl × List UInt8 × Int :=
  if wrap64 ((stepF 8 alInt rest e).1 : Int) = 1 then (vInt (wrap64 ((stepF 8 alInt (stepF 8 alInt rest e).2.1 (stepF 8 alInt rest e).2.2).1 : Int)), (stepF 8 alInt (stepF 8 alInt rest e).2.1 (stepF 8 alInt rest e).2.2).2)
  else if wrap64 ((stepF 8 alInt rest e).1 : Int) = 2 then (vTruth (decide ((stepF 1 alBool (stepF 8 alInt rest e).2.1 (stepF 8 alInt rest e).2.2).1 = 1)), (stepF 1 alBool (stepF 8 alInt rest e).2.1 (stepF 8 alInt rest e).2.2).2)
  else if wrap64 ((stepF 8 alInt rest e).1 : Int) = 3 then (⟨3, 0, false, strB (bytesF 32 (stepF 8 alInt rest e).2.1 (stepF 8 alInt rest e).2.2).1, 0⟩, (bytesF 32 (stepF 8 alInt rest e).2.1 (stepF 8 alInt rest e).2.2).2)
  else if wrap64 ((stepF 8 alInt rest e).1 : Int) = 4 then (vNum (stepF 8 alNum (stepF 8 alInt rest e).2.1 (stepF 8 alInt rest e).2.2).1, (stepF 8 alNum (stepF 8 alInt rest e).2.1 (stepF 8 alInt rest e).2.2).2)
  else (vZero, (stepF 8 alInt rest e).2)
/-- .. and what Get tells of it -/
def getV (rest : List UInt8) (e : Int) : Vl := if (readF rest e).2.2 = 0 then (readF rest e).1 else vZero
def getE (rest : List UInt8) (e : Int) : Int := if (readF rest e).2.2 = 0 then (if (readF rest e).1.k = 0 then 12 else 0) else (readF rest e).2.2

/-- a block but the one that was written is as it was -/
theorem only_at {g b : Nat} {W W' : World} (ho : Only g W W') (hb : b < W.heap.size) (hne : b ≠ g) : (∀ j, W'.cell? ⟨b, j, none⟩ = W.cell? ⟨b, j, none⟩) ∧ (∀ j, W'.frozen? ⟨b, j, none⟩ = W.frozen? ⟨b, j, none⟩) := by
  have h := ho.block b hb (by intro e; injection e with e; exact hne e)
  exact ⟨fun j => World.cell?_of_block (a := ⟨b, j, none⟩) h, fun j => World.frozen?_of_block (a := ⟨b, j, none⟩) h⟩
theorem Only.setNew {g k : Nat} {a w : World} (h : Only g a w) (hk : a.heap.size ≤ k) (j : Nat) (u : Value) : Only g a (w.setCell ⟨k, j, none⟩ u) :=
  ⟨h.os, h.tape, h.output, by simpa [World.setCell] using h.size, fun m hm hne => (Below.heap_setCell w _ u m (by intro e; simp only at e; omega)).trans (h.block m hm hne)⟩
theorem Only.set5 {g k : Nat} {a w : World} (h : Only g a w) (hk : a.heap.size ≤ k) (u0 u1 u2 u3 u4 : Value) :
    Only g a (((((w.setCell ⟨k, 0, none⟩ u0).setCell ⟨k, 1, none⟩ u1).setCell ⟨k, 2, none⟩ u2).setCell ⟨k, 3, none⟩ u3).setCell ⟨k, 4, none⟩ u4) :=
  ((((h.setNew hk 0 u0).setNew hk 1 u1).setNew hk 2 u2).setNew hk 3 u3).setNew hk 4 u4
theorem only_self5 (k : Nat) (w : World) (u0 u1 u2 u3 u4 : Value) :
    Only k w (((((w.setCell ⟨k, 0, none⟩ u0).setCell ⟨k, 1, none⟩ u1).setCell ⟨k, 2, none⟩ u2).setCell ⟨k, 3, none⟩ u3).setCell ⟨k, 4, none⟩ u4) :=
  (((((Only.refl k w).set 0 u0).set 1 u1).set 2 u2).set 3 u3).set 4 u4
theorem Only.trans' {g : Nat} {w W W' : World} (h : Below w.heap.size w W) (ho : Only g W W') : Only g w W' := ((Only.refl g w).below h).trans ho
/-- bytes do not lie in a block of values -/
theorem Bt.off {w w' : World} {N : Nat} {v : Value} {l : List UInt8} {cs : Array Value} {fr : Nat × Nat} (h : Bt w v l) (ho : Only N w w') (hN : w.heap[N]? = some (.cells cs 25 fr)) : Bt w' v l := by
  obtain ⟨⟨A, c, hv, hc, hm, hn, hx⟩, hy⟩ := h
  by_cases hl : l = []
  · subst hl
    exact ⟨⟨A, c, hv, hc, hm, hn, fun he => absurd rfl he⟩, fun he => absurd rfl he⟩
  · have hl' : l.map bc ≠ [] := by simpa using hl
    obtain ⟨ad, ha, hb, hr⟩ := hx hl'
    have hown : v.ownBlock = some ad.block := by rw [hv, ha]; rfl
    obtain ⟨cs2, fr2, hty⟩ := hy hl ad.block hown
    have hne : ad.block ≠ N := by
      intro e
      rw [e, hN] at hty
      injection hty with hty
      injection hty with h1 h2 h3
      exact absurd h2 (by decide)
    have hblk := ho.block ad.block hb (by intro e; injection e with e; exact hne e)
    refine ⟨⟨A, c, hv, hc, hm, hn, fun _ => ⟨ad, ha, Nat.lt_of_lt_of_le hb ho.size, fun j u hu => ?_⟩⟩, fun _ k hk => ?_⟩
    · have hb2 : (ad.add j).block = ad.block := block_add ad j
      exact (World.cell?_of_block (w := w) (w' := w') (a := ad.add j) (by rw [hb2]; exact hblk)).trans (hr j u hu)
    · rw [hown] at hk
      injection hk with hk
      subst hk
      exact ⟨cs2, fr2, hblk.trans hty⟩
theorem RdR.off {w w' : World} {N g : Nat} {rest : List UInt8} {err : Int} {cs : Array Value} {fr : Nat × Nat} (h : RdR w g rest err) (ho : Only N w w') (hne : g ≠ N) (hN : w.heap[N]? = some (.cells cs 25 fr)) : RdR w' g rest err := by
  have hlt := h.lt
  obtain ⟨rv, hh, hb⟩ := h
  exact ⟨rv, (ho.block g hlt (by intro e; injection e with e; exact hne e)).trans hh, hb.off ho hN⟩
theorem Bs.offN {w w' : World} {N : Nat} {v : Value} {l : List UInt8} (h : Bs w v l) (ho : Only N w w') (hN : l ≠ [] → ∀ k, v.ownBlock = some k → k ≠ N) : Bs w' v l := by
  obtain ⟨A, c, hv, hc, hm, hn, hx⟩ := h
  by_cases hl : l = []
  · subst hl
    exact ⟨A, c, hv, hc, hm, hn, fun he => absurd rfl he⟩
  · have hl' : l.map bc ≠ [] := by simpa using hl
    obtain ⟨ad, ha, hb, hr⟩ := hx hl'
    have hown : v.ownBlock = some ad.block := by rw [hv, ha]; rfl
    have hne := hN hl ad.block hown
    have hblk := ho.block ad.block hb (by intro e; injection e with e; exact hne e)
    refine ⟨A, c, hv, hc, hm, hn, fun _ => ⟨ad, ha, Nat.lt_of_lt_of_le hb ho.size, fun j u hu => ?_⟩⟩
    have hb2 : (ad.add j).block = ad.block := block_add ad j
    exact (World.cell?_of_block (w := w) (w' := w') (a := ad.add j) (by rw [hb2]; exact hblk)).trans (hr j u hu)
theorem Bq.off {w w' : World} {N g : Nat} {v : Value} {l : List UInt8} {cs : Array Value} {fr : Nat × Nat} (h : Bq g w v l) (ho : Only N w w') (hlt : g < N) (hN : w.heap[N]? = some (.cells cs 25 fr)) : Bq g w' v l := by
  rcases h with ⟨h1, h2 | h2⟩
  · exact (Bt.off ⟨h1, h2⟩ ho hN).bq
  · exact ⟨h1.offN ho (fun hl k hk e => by have := h2 hl k hk; omega), Or.inr h2⟩
theorem RfS.off {w w' : World} {N g : Nat} {rest : List UInt8} {err : Int} {cs : Array Value} {fr : Nat × Nat} (h : RfS w g rest err) (ho : Only N w w') (hlt : g < N) (hN : w.heap[N]? = some (.cells cs 25 fr)) : RfS w' g rest err := by
  have hgl := h.lt
  obtain ⟨bs, i, ⟨bv, hh, hb, h1, h2⟩, h3⟩ := h
  exact ⟨bs, i, ⟨bv, (ho.block g hgl (by intro e; injection e with e; omega)).trans hh, hb.off ho hlt hN, h1, h2⟩, h3⟩

/-- what read answers -/
def ReadP (g : Nat) (r : Vl × List UInt8 × Int) (w : World) (e : Ending) (w' : World) : Prop := e = .returned (agV r.1) ∧ RdR w' g r.2.1 r.2.2 ∧ Only g w w'
theorem ReadP.mk {g N : Nat} {v : Vl} {rest : List UInt8} {err : Int} {w W wB : World} {cs : Array Value} {fr : Nat × Nat} (hN : N = w.heap.size) (hr : RdR wB g rest err) (ho : Only g w wB) (hg : g < w.heap.size) (hb : wB.heap[N]? = some (.cells cs 25 fr)) (u0 u1 u2 u3 u4 : Value) :
    ReadP g (v, rest, err) w (.returned (agV v)) (((((wB.setCell ⟨N, 0, none⟩ u0).setCell ⟨N, 1, none⟩ u1).setCell ⟨N, 2, none⟩ u2).setCell ⟨N, 3, none⟩ u3).setCell ⟨N, 4, none⟩ u4) := by
  subst hN
  exact ⟨rfl, hr.off (only_self5 _ _ _ _ _ _ _) (by omega) hb, ho.set5 (Nat.le_refl _) _ _ _ _ _⟩

set_option maxHeartbeats 4000000 in
theorem read_1 (g : Nat) (rest : List UInt8) (e : Int) (w : World) (hr : RdR w g rest e) (hlen : rest.length ≤ 1000000000000) (hk : wrap64 ((stepF 8 alInt rest e).1 : Int) = 1) : Calls Tryz.prog 192 #[.pointer (some ⟨g, 0, none⟩)] w (ReadP g (readF rest e) w) := by
  have hgl := hr.lt
  have q1 : ∀ W, Below w.heap.size w W → Calls Tryz.prog 91 #[.pointer (some ⟨g, 0, none⟩)] W (Did g (.int .i64 (wrap64 ((stepF 8 alInt rest e).1 : Int))) (stepF 8 alInt rest e).2.1 (stepF 8 alInt rest e).2.2 W) := fun W hb => Int_any g rest e W (hr.below hb)
  have hsl : (stepF 8 alInt rest e).2.1.length ≤ rest.length := by
    unfold stepF
    split
    · exact Nat.le_refl _
    split
    · exact Nat.le_refl _
    split
    · exact Nat.le_refl _
    · simp
  unfold readF
  rw [if_pos hk]
  generalize stepF 8 alInt rest e = s at *
  obtain ⟨n, r1, e1⟩ := s
  simp only at *
  have d1 : (wrap64 (n : Int) == 1) = true := by rw [hk]; rfl
  have d2 : (wrap64 (n : Int) == 2) = false := by rw [hk]; rfl
  have d3 : (wrap64 (n : Int) == 3) = false := by rw [hk]; rfl
  have d4 : (wrap64 (n : Int) == 4) = false := by rw [hk]; rfl
  have q2 : ∀ W, RdR W g r1 e1 → Calls Tryz.prog 91 #[.pointer (some ⟨g, 0, none⟩)] W (Did g (.int .i64 (wrap64 ((stepF 8 alInt r1 e1).1 : Int))) (stepF 8 alInt r1 e1).2.1 (stepF 8 alInt r1 e1).2.2 W) := fun W h => Int_any g r1 e1 W h
  generalize stepF 8 alInt r1 e1 = t at *
  obtain ⟨m, r2, e2⟩ := t
  simp only at *
  have HW0 := Lib.hid ((Below.refl w.heap.size w).alloc (Nat.le_refl _) (.cells #[.int .i64 0, .int .i64 0, .bool false, .string ⟨#[]⟩, .float .f64 0] 25))
  have hne : w.heap.size ≠ g := by omega
  have HB0 := Lib.hid (heap_alloc_new w (.cells #[.int .i64 0, .int .i64 0, .bool false, .string ⟨#[]⟩, .float .f64 0] 25))
  have Q1 := Lib.hid q1
  have Q2 := Lib.hid q2
  have HG := Lib.hid hgl
  clear q1 hr hlen hsl hgl q2 hk
  have tok1 : True := trivial
  have hsf := fun (w : World) (a : Addr) (m : Mode) (b : Nat) => run_store Tryz.prog w a (.float .f64 b) m rfl
  go_enter Tryz.func192, Tryz.ntmps192
  go_wp2_with fail
  refine (Q1.out _ HW0.out).mono ?_
  rintro e wA ⟨rfl, hr1, ho1⟩
  obtain ⟨hc1, hf1⟩ := only_at ho1 (show w.heap.size < (w.alloc (.cells #[.int .i64 0, .int .i64 0, .bool false, .string ⟨#[]⟩, .float .f64 0] 25)).heap.size by simp) hne
  have HO1 := Lib.hid (Only.trans' (w := w) HW0.out ho1)
  have HN1 := Lib.hid ((ho1.block w.heap.size (by simp) (by intro e; injection e with e; exact hne e)).trans HB0.out)
  have hzA : w.heap.size < wA.heap.size := by have := ho1.size; simp at this; omega
  have HR1 := Lib.hid hr1
  clear hr1 ho1
  go_wp2_with fail
  refine (Q2.out _ HR1.out).mono ?_
  rintro e wB ⟨rfl, hr2, ho2⟩
  obtain ⟨hc2, hf2⟩ := only_at ho2 hzA hne
  have HO2 := Lib.hid (HO1.out.trans ho2)
  have HN2 := Lib.hid ((ho2.block w.heap.size hzA (by intro e; injection e with e; exact hne e)).trans HN1.out)
  have hzB : w.heap.size < wB.heap.size := by have := ho2.size; omega
  have HR2 := Lib.hid hr2
  clear hr2 ho2
  go_wp2
  exact bodyPost_ret (v := agV (vInt (wrap64 (m : Int)))) (by simp [results, Tryz.results192, go_sem, hc1, hc2, hzA, hzB]) rfl (ReadP.mk (W := w) rfl HR2.out HO2.out HG.out HN2.out _ _ _ _ _)

set_option maxHeartbeats 4000000 in
theorem read_2 (g : Nat) (rest : List UInt8) (e : Int) (w : World) (hr : RdR w g rest e) (hlen : rest.length ≤ 1000000000000) (hk : wrap64 ((stepF 8 alInt rest e).1 : Int) = 2) : Calls Tryz.prog 192 #[.pointer (some ⟨g, 0, none⟩)] w (ReadP g (readF rest e) w) := by
  have hgl := hr.lt
  have q1 : ∀ W, Below w.heap.size w W → Calls Tryz.prog 91 #[.pointer (some ⟨g, 0, none⟩)] W (Did g (.int .i64 (wrap64 ((stepF 8 alInt rest e).1 : Int))) (stepF 8 alInt rest e).2.1 (stepF 8 alInt rest e).2.2 W) := fun W hb => Int_any g rest e W (hr.below hb)
  have hsl : (stepF 8 alInt rest e).2.1.length ≤ rest.length := by
    unfold stepF
    split
    · exact Nat.le_refl _
    split
    · exact Nat.le_refl _
    split
    · exact Nat.le_refl _
    · simp
  unfold readF
  rw [if_neg (show wrap64 ((stepF 8 alInt rest e).1 : Int) ≠ 1 by omega), if_pos hk]
  generalize stepF 8 alInt rest e = s at *
  obtain ⟨n, r1, e1⟩ := s
  simp only at *
  have d1 : (wrap64 (n : Int) == 1) = false := by rw [hk]; rfl
  have d2 : (wrap64 (n : Int) == 2) = true := by rw [hk]; rfl
  have d3 : (wrap64 (n : Int) == 3) = false := by rw [hk]; rfl
  have d4 : (wrap64 (n : Int) == 4) = false := by rw [hk]; rfl
  have q2 : ∀ W, RdR W g r1 e1 → Calls Tryz.prog 221 #[.pointer (some ⟨g, 0, none⟩)] W (Did g (.bool (decide ((stepF 1 alBool r1 e1).1 = 1))) (stepF 1 alBool r1 e1).2.1 (stepF 1 alBool r1 e1).2.2 W) := fun W h => Bool_any g r1 e1 W h
  generalize stepF 1 alBool r1 e1 = t at *
  obtain ⟨m, r2, e2⟩ := t
  simp only at *
  have HW0 := Lib.hid ((Below.refl w.heap.size w).alloc (Nat.le_refl _) (.cells #[.int .i64 0, .int .i64 0, .bool false, .string ⟨#[]⟩, .float .f64 0] 25))
  have hne : w.heap.size ≠ g := by omega
  have HB0 := Lib.hid (heap_alloc_new w (.cells #[.int .i64 0, .int .i64 0, .bool false, .string ⟨#[]⟩, .float .f64 0] 25))
  have Q1 := Lib.hid q1
  have Q2 := Lib.hid q2
  have HG := Lib.hid hgl
  clear q1 hr hlen hsl hgl q2 hk
  have tok1 : True := trivial
  have hsf := fun (w : World) (a : Addr) (m : Mode) (b : Nat) => run_store Tryz.prog w a (.float .f64 b) m rfl
  go_enter Tryz.func192, Tryz.ntmps192
  go_wp2_with fail
  refine (Q1.out _ HW0.out).mono ?_
  rintro e wA ⟨rfl, hr1, ho1⟩
  obtain ⟨hc1, hf1⟩ := only_at ho1 (show w.heap.size < (w.alloc (.cells #[.int .i64 0, .int .i64 0, .bool false, .string ⟨#[]⟩, .float .f64 0] 25)).heap.size by simp) hne
  have HO1 := Lib.hid (Only.trans' (w := w) HW0.out ho1)
  have HN1 := Lib.hid ((ho1.block w.heap.size (by simp) (by intro e; injection e with e; exact hne e)).trans HB0.out)
  have hzA : w.heap.size < wA.heap.size := by have := ho1.size; simp at this; omega
  have HR1 := Lib.hid hr1
  clear hr1 ho1
  go_wp2_with fail
  refine (Q2.out _ HR1.out).mono ?_
  rintro e wB ⟨rfl, hr2, ho2⟩
  obtain ⟨hc2, hf2⟩ := only_at ho2 hzA hne
  have HO2 := Lib.hid (HO1.out.trans ho2)
  have HN2 := Lib.hid ((ho2.block w.heap.size hzA (by intro e; injection e with e; exact hne e)).trans HN1.out)
  have hzB : w.heap.size < wB.heap.size := by have := ho2.size; omega
  have HR2 := Lib.hid hr2
  clear hr2 ho2
  go_wp2
  exact bodyPost_ret (v := agV (vTruth (decide (m = 1)))) (by simp [results, Tryz.results192, go_sem, hc1, hc2, hzA, hzB]) rfl (ReadP.mk (W := w) rfl HR2.out HO2.out HG.out HN2.out _ _ _ _ _)

set_option maxHeartbeats 4000000 in
theorem read_3 (g : Nat) (rest : List UInt8) (e : Int) (w : World) (hr : RdR w g rest e) (hlen : rest.length ≤ 1000000000000) (hk : wrap64 ((stepF 8 alInt rest e).1 : Int) = 3) : Calls Tryz.prog 192 #[.pointer (some ⟨g, 0, none⟩)] w (ReadP g (readF rest e) w) := by
  have hgl := hr.lt
  have q1 : ∀ W, Below w.heap.size w W → Calls Tryz.prog 91 #[.pointer (some ⟨g, 0, none⟩)] W (Did g (.int .i64 (wrap64 ((stepF 8 alInt rest e).1 : Int))) (stepF 8 alInt rest e).2.1 (stepF 8 alInt rest e).2.2 W) := fun W hb => Int_any g rest e W (hr.below hb)
  have hsl : (stepF 8 alInt rest e).2.1.length ≤ rest.length := by
    unfold stepF
    split
    · exact Nat.le_refl _
    split
    · exact Nat.le_refl _
    split
    · exact Nat.le_refl _
    · simp
  unfold readF
  rw [if_neg (show wrap64 ((stepF 8 alInt rest e).1 : Int) ≠ 1 by omega), if_neg (show wrap64 ((stepF 8 alInt rest e).1 : Int) ≠ 2 by omega), if_pos hk]
  generalize stepF 8 alInt rest e = s at *
  obtain ⟨n, r1, e1⟩ := s
  simp only at *
  have d1 : (wrap64 (n : Int) == 1) = false := by rw [hk]; rfl
  have d2 : (wrap64 (n : Int) == 2) = false := by rw [hk]; rfl
  have d3 : (wrap64 (n : Int) == 3) = true := by rw [hk]; rfl
  have d4 : (wrap64 (n : Int) == 4) = false := by rw [hk]; rfl
  have q2 : ∀ W, RdR W g r1 e1 → Calls Tryz.prog 93 #[.pointer (some ⟨g, 0, none⟩), .int .i64 32] W (DidB g (bytesF 32 r1 e1).1 (bytesF 32 r1 e1).2.1 (bytesF 32 r1 e1).2.2 W) := fun W h => Bytes_any g r1 e1 32 (by decide) (by decide) W h (by omega)
  generalize bytesF 32 r1 e1 = t at *
  obtain ⟨m, r2, e2⟩ := t
  simp only at *
  have HW0 := Lib.hid ((Below.refl w.heap.size w).alloc (Nat.le_refl _) (.cells #[.int .i64 0, .int .i64 0, .bool false, .string ⟨#[]⟩, .float .f64 0] 25))
  have hne : w.heap.size ≠ g := by omega
  have HB0 := Lib.hid (heap_alloc_new w (.cells #[.int .i64 0, .int .i64 0, .bool false, .string ⟨#[]⟩, .float .f64 0] 25))
  have Q1 := Lib.hid q1
  have Q2 := Lib.hid q2
  have HG := Lib.hid hgl
  clear q1 hr hlen hsl hgl q2 hk
  have tok1 : True := trivial
  have hsf := fun (w : World) (a : Addr) (m : Mode) (b : Nat) => run_store Tryz.prog w a (.float .f64 b) m rfl
  go_enter Tryz.func192, Tryz.ntmps192
  go_wp2_with fail
  refine (Q1.out _ HW0.out).mono ?_
  rintro e wA ⟨rfl, hr1, ho1⟩
  obtain ⟨hc1, hf1⟩ := only_at ho1 (show w.heap.size < (w.alloc (.cells #[.int .i64 0, .int .i64 0, .bool false, .string ⟨#[]⟩, .float .f64 0] 25)).heap.size by simp) hne
  have HO1 := Lib.hid (Only.trans' (w := w) HW0.out ho1)
  have HN1 := Lib.hid ((ho1.block w.heap.size (by simp) (by intro e; injection e with e; exact hne e)).trans HB0.out)
  have hzA : w.heap.size < wA.heap.size := by have := ho1.size; simp at this; omega
  have HR1 := Lib.hid hr1
  clear hr1 ho1
  go_wp2_with fail
  refine (Q2.out _ HR1.out).mono ?_
  rintro e wB ⟨u, rfl, hu, hr2, ho2⟩
  have hcv : (convert 28 9 u).run Tryz.prog wB = .ok (.string (strB m)) wB := run_str hu
  obtain ⟨hc2, hf2⟩ := only_at ho2 hzA hne
  have HO2 := Lib.hid (HO1.out.trans ho2)
  have HN2 := Lib.hid ((ho2.block w.heap.size hzA (by intro e; injection e with e; exact hne e)).trans HN1.out)
  have hzB : w.heap.size < wB.heap.size := by have := ho2.size; omega
  have HR2 := Lib.hid hr2
  clear hr2 ho2
  go_wp2
  exact bodyPost_ret (v := agV (⟨3, 0, false, strB m, 0⟩)) (by simp [results, Tryz.results192, go_sem, hc1, hc2, hzA, hzB]) rfl (ReadP.mk (W := w) rfl HR2.out HO2.out HG.out HN2.out _ _ _ _ _)

set_option maxHeartbeats 4000000 in
theorem read_4 (g : Nat) (rest : List UInt8) (e : Int) (w : World) (hr : RdR w g rest e) (hlen : rest.length ≤ 1000000000000) (hk : wrap64 ((stepF 8 alInt rest e).1 : Int) = 4) : Calls Tryz.prog 192 #[.pointer (some ⟨g, 0, none⟩)] w (ReadP g (readF rest e) w) := by
  have hgl := hr.lt
  have q1 : ∀ W, Below w.heap.size w W → Calls Tryz.prog 91 #[.pointer (some ⟨g, 0, none⟩)] W (Did g (.int .i64 (wrap64 ((stepF 8 alInt rest e).1 : Int))) (stepF 8 alInt rest e).2.1 (stepF 8 alInt rest e).2.2 W) := fun W hb => Int_any g rest e W (hr.below hb)
  have hsl : (stepF 8 alInt rest e).2.1.length ≤ rest.length := by
    unfold stepF
    split
    · exact Nat.le_refl _
    split
    · exact Nat.le_refl _
    split
    · exact Nat.le_refl _
    · simp
  unfold readF
  rw [if_neg (show wrap64 ((stepF 8 alInt rest e).1 : Int) ≠ 1 by omega), if_neg (show wrap64 ((stepF 8 alInt rest e).1 : Int) ≠ 2 by omega), if_neg (show wrap64 ((stepF 8 alInt rest e).1 : Int) ≠ 3 by omega), if_pos hk]
  generalize stepF 8 alInt rest e = s at *
  obtain ⟨n, r1, e1⟩ := s
  simp only at *
  have d1 : (wrap64 (n : Int) == 1) = false := by rw [hk]; rfl
  have d2 : (wrap64 (n : Int) == 2) = false := by rw [hk]; rfl
  have d3 : (wrap64 (n : Int) == 3) = false := by rw [hk]; rfl
  have d4 : (wrap64 (n : Int) == 4) = true := by rw [hk]; rfl
  have q2 : ∀ W, RdR W g r1 e1 → Calls Tryz.prog 222 #[.pointer (some ⟨g, 0, none⟩)] W (Did g (.float .f64 (stepF 8 alNum r1 e1).1) (stepF 8 alNum r1 e1).2.1 (stepF 8 alNum r1 e1).2.2 W) := fun W h => Num_any g r1 e1 W h
  generalize stepF 8 alNum r1 e1 = t at *
  obtain ⟨m, r2, e2⟩ := t
  simp only at *
  have HW0 := Lib.hid ((Below.refl w.heap.size w).alloc (Nat.le_refl _) (.cells #[.int .i64 0, .int .i64 0, .bool false, .string ⟨#[]⟩, .float .f64 0] 25))
  have hne : w.heap.size ≠ g := by omega
  have HB0 := Lib.hid (heap_alloc_new w (.cells #[.int .i64 0, .int .i64 0, .bool false, .string ⟨#[]⟩, .float .f64 0] 25))
  have Q1 := Lib.hid q1
  have Q2 := Lib.hid q2
  have HG := Lib.hid hgl
  clear q1 hr hlen hsl hgl q2 hk
  have tok1 : True := trivial
  have hsf := fun (w : World) (a : Addr) (m : Mode) (b : Nat) => run_store Tryz.prog w a (.float .f64 b) m rfl
  go_enter Tryz.func192, Tryz.ntmps192
  go_wp2_with fail
  refine (Q1.out _ HW0.out).mono ?_
  rintro e wA ⟨rfl, hr1, ho1⟩
  obtain ⟨hc1, hf1⟩ := only_at ho1 (show w.heap.size < (w.alloc (.cells #[.int .i64 0, .int .i64 0, .bool false, .string ⟨#[]⟩, .float .f64 0] 25)).heap.size by simp) hne
  have HO1 := Lib.hid (Only.trans' (w := w) HW0.out ho1)
  have HN1 := Lib.hid ((ho1.block w.heap.size (by simp) (by intro e; injection e with e; exact hne e)).trans HB0.out)
  have hzA : w.heap.size < wA.heap.size := by have := ho1.size; simp at this; omega
  have HR1 := Lib.hid hr1
  clear hr1 ho1
  go_wp2_with fail
  refine (Q2.out _ HR1.out).mono ?_
  rintro e wB ⟨rfl, hr2, ho2⟩
  obtain ⟨hc2, hf2⟩ := only_at ho2 hzA hne
  have HO2 := Lib.hid (HO1.out.trans ho2)
  have HN2 := Lib.hid ((ho2.block w.heap.size hzA (by intro e; injection e with e; exact hne e)).trans HN1.out)
  have hzB : w.heap.size < wB.heap.size := by have := ho2.size; omega
  have HR2 := Lib.hid hr2
  clear hr2 ho2
  go_wp2
  exact bodyPost_ret (v := agV (vNum m)) (by simp [results, Tryz.results192, go_sem, hc1, hc2, hzA, hzB]) rfl (ReadP.mk (W := w) rfl HR2.out HO2.out HG.out HN2.out _ _ _ _ _)

set_option maxHeartbeats 4000000 in
theorem read_0 (g : Nat) (rest : List UInt8) (e : Int) (w : World) (hr : RdR w g rest e) (hlen : rest.length ≤ 1000000000000) (h1 : wrap64 ((stepF 8 alInt rest e).1 : Int) ≠ 1) (h2 : wrap64 ((stepF 8 alInt rest e).1 : Int) ≠ 2) (h3 : wrap64 ((stepF 8 alInt rest e).1 : Int) ≠ 3) (h4 : wrap64 ((stepF 8 alInt rest e).1 : Int) ≠ 4) : Calls Tryz.prog 192 #[.pointer (some ⟨g, 0, none⟩)] w (ReadP g (readF rest e) w) := by
  have hgl := hr.lt
  have q1 : ∀ W, Below w.heap.size w W → Calls Tryz.prog 91 #[.pointer (some ⟨g, 0, none⟩)] W (Did g (.int .i64 (wrap64 ((stepF 8 alInt rest e).1 : Int))) (stepF 8 alInt rest e).2.1 (stepF 8 alInt rest e).2.2 W) := fun W hb => Int_any g rest e W (hr.below hb)
  have hsl : (stepF 8 alInt rest e).2.1.length ≤ rest.length := by
    unfold stepF
    split
    · exact Nat.le_refl _
    split
    · exact Nat.le_refl _
    split
    · exact Nat.le_refl _
    · simp
  unfold readF
  rw [if_neg h1, if_neg h2, if_neg h3, if_neg h4]
  generalize stepF 8 alInt rest e = s at *
  obtain ⟨n, r1, e1⟩ := s
  simp only at *
  have d1 : (wrap64 (n : Int) == 1) = false := by simpa using h1
  have d2 : (wrap64 (n : Int) == 2) = false := by simpa using h2
  have d3 : (wrap64 (n : Int) == 3) = false := by simpa using h3
  have d4 : (wrap64 (n : Int) == 4) = false := by simpa using h4
  have HW0 := Lib.hid ((Below.refl w.heap.size w).alloc (Nat.le_refl _) (.cells #[.int .i64 0, .int .i64 0, .bool false, .string ⟨#[]⟩, .float .f64 0] 25))
  have hne : w.heap.size ≠ g := by omega
  have HB0 := Lib.hid (heap_alloc_new w (.cells #[.int .i64 0, .int .i64 0, .bool false, .string ⟨#[]⟩, .float .f64 0] 25))
  have Q1 := Lib.hid q1
  have HG := Lib.hid hgl
  clear q1 hr hlen hsl hgl h1 h2 h3 h4
  have tok1 : True := trivial
  have hsf := fun (w : World) (a : Addr) (m : Mode) (b : Nat) => run_store Tryz.prog w a (.float .f64 b) m rfl
  go_enter Tryz.func192, Tryz.ntmps192
  go_wp2_with fail
  refine (Q1.out _ HW0.out).mono ?_
  rintro e wA ⟨rfl, hr1, ho1⟩
  obtain ⟨hc1, hf1⟩ := only_at ho1 (show w.heap.size < (w.alloc (.cells #[.int .i64 0, .int .i64 0, .bool false, .string ⟨#[]⟩, .float .f64 0] 25)).heap.size by simp) hne
  have HO1 := Lib.hid (Only.trans' (w := w) HW0.out ho1)
  have HN1 := Lib.hid ((ho1.block w.heap.size (by simp) (by intro e; injection e with e; exact hne e)).trans HB0.out)
  have hzA : w.heap.size < wA.heap.size := by have := ho1.size; simp at this; omega
  have HR1 := Lib.hid hr1
  clear hr1 ho1
  go_wp2
  exact bodyPost_ret (v := agV vZero) (by simp [results, Tryz.results192, go_sem, hc1, hzA]) rfl (ReadP.mk (W := w) rfl HR1.out HO1.out HG.out HN1.out _ _ _ _ _)

theorem read_any (g : Nat) (rest : List UInt8) (e : Int) (w : World) (hr : RdR w g rest e) (hlen : rest.length ≤ 1000000000000) : Calls Tryz.prog 192 #[.pointer (some ⟨g, 0, none⟩)] w (ReadP g (readF rest e) w) := by
  by_cases h1 : wrap64 ((stepF 8 alInt rest e).1 : Int) = 1
  · exact read_1 g rest e w hr hlen h1
  by_cases h2 : wrap64 ((stepF 8 alInt rest e).1 : Int) = 2
  · exact read_2 g rest e w hr hlen h2
  by_cases h3 : wrap64 ((stepF 8 alInt rest e).1 : Int) = 3
  · exact read_3 g rest e w hr hlen h3
  by_cases h4 : wrap64 ((stepF 8 alInt rest e).1 : Int) = 4
  · exact read_4 g rest e w hr hlen h4
  exact read_0 g rest e w hr hlen h1 h2 h3 h4
end Go.Proofs.YtkhpgejammgolaaGreat

/- Layer 4: Get by the program. -/
namespace Go.Proofs.YtkhpgejammgolaaGreat
open Go.RowKit
set_option linter.unusedVariables false
set_option linter.unusedSimpArgs false
set_option maxRecDepth 20000

/-- what Get answers -/
def GetP (g : Nat) (v : Vl) (er : Int) (rest : List UInt8) (err : Int) (w : World) (e : Ending) (w' : World) : Prop := e = .returned (pairVE v er) ∧ RdR w' g rest err ∧ Only g w w'
theorem GetP.mk {g N : Nat} {v : Vl} {er : Int} {rest : List UInt8} {err : Int} {w wB : World} {cs : Array Value} {fr : Nat × Nat} (hN : N = w.heap.size) (hr : RdR wB g rest err) (ho : Only g w wB) (hg : g < w.heap.size) (hb : wB.heap[N]? = some (.cells cs 25 fr)) (u0 u1 u2 u3 u4 : Value) :
    GetP g v er rest err w (.returned (pairVE v er)) (((((wB.setCell ⟨N, 0, none⟩ u0).setCell ⟨N, 1, none⟩ u1).setCell ⟨N, 2, none⟩ u2).setCell ⟨N, 3, none⟩ u3).setCell ⟨N, 4, none⟩ u4) := by
  subst hN
  exact ⟨rfl, hr.off (only_self5 _ _ _ _ _ _ _) (by omega) hb, ho.set5 (Nat.le_refl _) _ _ _ _ _⟩
set_option maxHeartbeats 4000000 in
theorem Get_walk (g : Nat) (r : Vl × List UInt8 × Int) (w : World) (hg : g < w.heap.size) (hq : ∀ W, Below w.heap.size w W → Calls Tryz.prog 192 #[.pointer (some ⟨g, 0, none⟩)] W (ReadP g r W)) (hre : ∀ W, RdR W g r.2.1 r.2.2 → Calls Tryz.prog 45 #[.pointer (some ⟨g, 0, none⟩)] W (VGv (.int .i64 r.2.2) W))
    (v : Vl) (er : Int) (hcase : ((r.2.2 != 0) = true ∧ v = vZero ∧ er = r.2.2) ∨ ((r.2.2 != 0) = false ∧ (r.1.k == 0) = true ∧ v = vZero ∧ er = 12) ∨ ((r.2.2 != 0) = false ∧ (r.1.k == 0) = false ∧ v = r.1 ∧ er = 0)) :
    Calls Tryz.prog 153 #[.pointer (some ⟨g, 0, none⟩)] w (GetP g v er r.2.1 r.2.2 w) := by
  obtain ⟨x, r2, e2⟩ := r
  simp only at *
  have HW0 := Lib.hid ((Below.refl w.heap.size w).alloc (Nat.le_refl _) (.cells #[.int .i64 0, .int .i64 0, .bool false, .string ⟨#[]⟩, .float .f64 0] 25))
  have HB0 := Lib.hid (heap_alloc_new w (.cells #[.int .i64 0, .int .i64 0, .bool false, .string ⟨#[]⟩, .float .f64 0] 25))
  have hne : w.heap.size ≠ g := by omega
  have HQ := Lib.hid hq
  have HE := Lib.hid hre
  have HG := Lib.hid hg
  have HC := Lib.hid hcase
  clear hq hre hg hcase
  have hsf := fun (w : World) (a : Addr) (m : Mode) (b : Nat) => run_store Tryz.prog w a (.float .f64 b) m rfl
  go_enter Tryz.func153, Tryz.ntmps153
  go_wp2_with fail
  refine (HQ.out _ HW0.out).mono ?_
  rintro e wA ⟨rfl, hr1, ho1⟩
  have hzA : w.heap.size < wA.heap.size := by have := ho1.size; simp at this; omega
  have HO1 := Lib.hid ((Only.trans' (w := w) HW0.out ho1).below ((Below.refl _ _).alloc (Nat.le_refl _) (.cells #[.int .i64 x.k, .int .i64 x.i, .bool x.b, .string x.s, .float .f64 x.n] 25)))
  have hn1 := (ho1.block w.heap.size (by simp) (by intro e; injection e with e; exact hne e)).trans HB0.out
  have hbl : Below wA.heap.size wA (wA.alloc (.cells #[.int .i64 x.k, .int .i64 x.i, .bool x.b, .string x.s, .float .f64 x.n] 25)) := (Below.refl _ _).alloc (Nat.le_refl _) _
  have HN1 := Lib.hid ((hbl.block w.heap.size hzA).trans hn1)
  have HR1 := Lib.hid (hr1.below hbl)
  have HX := Lib.hid (Bx.new wA x)
  clear hr1 ho1 hn1 hbl
  go_upto_region 2 with fail
  generalize hwc : wA.alloc (.cells #[.int .i64 x.k, .int .i64 x.i, .bool x.b, .string x.s, .float .f64 x.n] 25) = wc at *
  have hzc : w.heap.size < wc.heap.size := by rw [← hwc]; simp; omega
  clear hwc hzA
  generalize wA.heap.size = bx at *
  have hc0 := (cell_of_row wc w.heap.size 0 _ _ (0, 0) HN1.out).trans rfl
  have hc1 := (cell_of_row wc w.heap.size 1 _ _ (0, 0) HN1.out).trans rfl
  have hc2 := (cell_of_row wc w.heap.size 2 _ _ (0, 0) HN1.out).trans rfl
  have hc3 := (cell_of_row wc w.heap.size 3 _ _ (0, 0) HN1.out).trans rfl
  have hc4 := (cell_of_row wc w.heap.size 4 _ _ (0, 0) HN1.out).trans rfl
  have hfr : ∀ j, wc.frozen? ⟨w.heap.size, j, none⟩ = false := fun j => by
    have h := HN1.out
    simp [World.frozen?, h]
  go_wp2_with fail
  refine (HE.out _ HR1.out).mono ?_
  rintro e w' ⟨rfl, rfl⟩
  obtain ⟨x0, x1, x2, x3, x4⟩ := HX.out
  rcases HC.out with ⟨t1, rfl, rfl⟩ | ⟨t1, t2, rfl, rfl⟩ | ⟨t1, t2, rfl, rfl⟩
  · go_wp2
    exact bodyPost_ret (v := pairVE vZero er) (by simp [results, Tryz.results153, go_sem, hc0, hc1, hc2, hc3, hc4]) rfl (GetP.mk rfl HR1.out HO1.out HG.out HN1.out _ _ _ _ _)
  · go_wp2
    exact bodyPost_ret (v := pairVE vZero 12) (by simp [results, Tryz.results153, go_sem, hc0, hc1, hc2, hc3, hc4]) rfl (GetP.mk rfl HR1.out HO1.out HG.out HN1.out _ _ _ _ _)
  · go_wp2
    exact bodyPost_ret (v := pairVE v 0) (by simp [results, Tryz.results153, go_sem, hc0, hc1, hc2, hc3, hc4]) rfl (GetP.mk rfl HR1.out HO1.out HG.out HN1.out _ _ _ _ _)

theorem Get_any (g : Nat) (rest : List UInt8) (e : Int) (w : World) (hr : RdR w g rest e) (hlen : rest.length ≤ 1000000000000) : Calls Tryz.prog 153 #[.pointer (some ⟨g, 0, none⟩)] w (GetP g (getV rest e) (getE rest e) (readF rest e).2.1 (readF rest e).2.2 w) := by
  refine Get_walk g (readF rest e) w hr.lt (fun W hb => read_any g rest e W (hr.below hb) hlen) (fun W h => (Err_any g _ _ W h)) (getV rest e) (getE rest e) ?_
  unfold getV getE
  by_cases h0 : (readF rest e).2.2 = 0
  · right
    rw [if_pos h0, if_pos h0]
    by_cases hk : (readF rest e).1.k = 0
    · left
      have hz : (readF rest e).1 = vZero := by
        revert hk
        unfold readF
        split
        · intro h; cases h
        split
        · intro h; cases h
        split
        · intro h; cases h
        split
        · intro h; cases h
        · intro _; rfl
      rw [if_pos hk, hz, h0]
      exact ⟨rfl, rfl, rfl, rfl⟩
    · right
      rw [if_neg hk, h0]
      exact ⟨rfl, by simpa using hk, rfl, rfl⟩
  · left
    rw [if_neg h0, if_neg h0]
    exact ⟨by simpa using h0, rfl, rfl⟩
end Go.Proofs.YtkhpgejammgolaaGreat

/- Layer 4: values out of bytes, by the document. (Made by gen/genvrget.py.) -/
namespace Go.Proofs.YtkhpgejammgolaaGreat
open Go.RowKit
set_option linter.unusedVariables false
set_option linter.unusedSimpArgs false
set_option maxRecDepth 20000

/-- a block that holds just a value -/
def Bh (W : World) (b : Nat) (v : Vl) : Prop := W.heap[b]? = some (.cells #[.int .i64 v.k, .int .i64 v.i, .bool v.b, .string v.s, .float .f64 v.n] 25 (0, 0))
theorem Bh.lt {W : World} {b : Nat} {v : Vl} (h : Bh W b v) : b < W.heap.size := (Array.getElem?_eq_some_iff.1 h).1
theorem Bh.bx {W : World} {b : Nat} {v : Vl} (h : Bh W b v) : Bx W b v := ⟨(cell_of_row _ _ 0 _ _ (0, 0) h).trans rfl, (cell_of_row _ _ 1 _ _ (0, 0) h).trans rfl, (cell_of_row _ _ 2 _ _ (0, 0) h).trans rfl, (cell_of_row _ _ 3 _ _ (0, 0) h).trans rfl, (cell_of_row _ _ 4 _ _ (0, 0) h).trans rfl⟩
theorem Bh.free {W : World} {b : Nat} {v : Vl} (h : Bh W b v) : ∀ j, W.frozen? ⟨b, j, none⟩ = false := fun j => by
  unfold Bh at h
  simp [World.frozen?, h]
theorem Bh.below {W W' : World} {b : Nat} {v : Vl} (h : Bh W b v) (hb : Below W.heap.size W W') : Bh W' b v := (hb.block b h.lt).trans h
theorem Bh.only {W W' : World} {b g : Nat} {v : Vl} (h : Bh W b v) (ho : Only g W W') (hne : b ≠ g) : Bh W' b v := (ho.block b h.lt (by intro e; injection e with e; exact hne e)).trans h
theorem Bh.set5 {W : World} {b : Nat} {v0 : Vl} (h : Bh W b v0) (v : Vl) : Bh (((((W.setCell ⟨b, 0, none⟩ (.int .i64 v.k)).setCell ⟨b, 1, none⟩ (.int .i64 v.i)).setCell ⟨b, 2, none⟩ (.bool v.b)).setCell ⟨b, 3, none⟩ (.string v.s)).setCell ⟨b, 4, none⟩ (.float .f64 v.n)) b v := by
  unfold Bh at h ⊢
  simp [World.setCell, Array.getElem?_modify, h]
theorem num_same (rest : List UInt8) (e : Int) : numW (stepF 8 alNum rest e).1 = (stepF 8 alNum rest e).1 := by
  unfold stepF
  split
  · exact numW_0
  split
  · exact numW_0
  split
  · exact numW_0
  · rename_i h
    have h' : alNum (wordN (rest.take 8)) = 0 := by simpa using h
    unfold alNum floatE at h'
    simp only [Int.toNat_natCast] at h'
    show numW (wordN (rest.take 8)) = wordN (rest.take 8)
    generalize wordN (rest.take 8) = m at *
    rcases hn : nanB m with _ | _
    · unfold numW; rw [hn]; rfl
    · rw [(numW_eq_nan m).2 hn]
      by_cases hm : m = 9221120237041090561
      · exact hm.symm
      · rw [if_pos ⟨hm, hn⟩] at h'; cases h'

/-- what Get answers -/
def GetR (g : Nat) (v : Vl) (er : Int) (rest : List UInt8) (err : Int) (w : World) (e : Ending) (w' : World) : Prop := e = .returned (pairVE v er) ∧ RfS w' g rest err ∧ Only g w w'
theorem GetR.mk {g N : Nat} {v v0 : Vl} {er : Int} {rest : List UInt8} {err : Int} {w wB : World} (hN : N = w.heap.size) (hr : RfS wB g rest err) (ho : Only g w wB) (hg : g < w.heap.size) (hb : Bh wB N v0) (u0 u1 u2 u3 u4 : Value) :
    GetR g v er rest err w (.returned (pairVE v er)) (((((wB.setCell ⟨N, 0, none⟩ u0).setCell ⟨N, 1, none⟩ u1).setCell ⟨N, 2, none⟩ u2).setCell ⟨N, 3, none⟩ u3).setCell ⟨N, 4, none⟩ u4) := by
  subst hN
  exact ⟨rfl, hr.off (only_self5 _ _ _ _ _ _ _) (by omega) hb, ho.set5 (Nat.le_refl _) _ _ _ _ _⟩
theorem GetR.drew {g : Nat} {v : Vl} {er : Int} {rest : List UInt8} {err : Int} {w wB : World} {e : Ending} (h : GetR g v er rest err w e wB) : GetR g v er rest err w e wB.drew := by
  obtain ⟨h1, h2, h3⟩ := h
  exact ⟨h1, h2.below ((Below.refl _ _).drew), h3.below ((Below.refl _ _).drew)⟩

set_option maxHeartbeats 4000000 in
theorem rGet_err (g : Nat) (rest : List UInt8) (e : Int) (n : Nat) (r1 : List UInt8) (e1 : Int) (hst : stepF 8 alInt rest e = (n, r1, e1)) (w : World) (hr : RfS w g rest e) (he : e1 ≠ 0) : Calls Tryz.prog 155 #[.pointer (some ⟨g, 0, none⟩)] w (GetR g vZero e1 r1 e1 w) := by
  have hgl := hr.lt
  have q1 : ∀ W, Below w.heap.size w W → Calls Tryz.prog 95 #[.pointer (some ⟨g, 0, none⟩)] W (DidR g (.int .i64 (wrap64 (n : Int))) r1 e1 W) := fun W hb => by
    have h := rfInt_any g rest e W (hr.below hb)
    rwa [hst] at h
  have he' : (e1 != 0) = true := by simpa using he
  clear he
  have HW0 := Lib.hid ((Below.refl w.heap.size w).alloc (Nat.le_refl _) (.cells #[.int .i64 0, .int .i64 0, .bool false, .string ⟨#[]⟩, .float .f64 0] 25))
  have hne : w.heap.size ≠ g := by omega
  have HB0 := Lib.hid (show Bh (w.alloc (.cells #[.int .i64 0, .int .i64 0, .bool false, .string ⟨#[]⟩, .float .f64 0] 25)) w.heap.size vZero from heap_alloc_new w _)
  have Q1 := Lib.hid q1
  have HG := Lib.hid hgl
  clear q1 hr hst hgl
  have hsf := fun (w : World) (a : Addr) (m : Mode) (b : Nat) => run_store Tryz.prog w a (.float .f64 b) m rfl
  go_enter Tryz.func155, Tryz.ntmps155
  go_wp2_with fail
  refine (Q1.out _ HW0.out).mono ?_
  rintro e wA ⟨rfl, hr1, ho1⟩
  have hzA : w.heap.size < wA.heap.size := by have := ho1.size; simp at this; omega
  have hgA : g < wA.heap.size := hr1.lt
  have hbl : Below wA.heap.size wA (wA.alloc (.cells #[.int .i64 0, .int .i64 0, .bool false, .string ⟨#[]⟩, .float .f64 0] 25)) := (Below.refl _ _).alloc (Nat.le_refl _) _
  have HO1 := Lib.hid ((Only.trans' (w := w) HW0.out ho1).below hbl)
  have HN1 := Lib.hid ((HB0.out.only ho1 hne).below hbl)
  have HM1 := Lib.hid (show Bh (wA.alloc (.cells #[.int .i64 0, .int .i64 0, .bool false, .string ⟨#[]⟩, .float .f64 0] 25)) wA.heap.size vZero from heap_alloc_new wA _)
  have HR1 := Lib.hid (hr1.below hbl)
  have hgM : wA.heap.size ≠ g := by omega
  have hgL : g < wA.heap.size := hgA
  have hwM : w.heap.size ≤ wA.heap.size := by omega
  have hNM : w.heap.size ≠ wA.heap.size := by omega
  clear hr1 ho1 hbl hzA hgA
  go_upto_region 3 with fail
  generalize wA.alloc (.cells #[.int .i64 0, .int .i64 0, .bool false, .string ⟨#[]⟩, .float .f64 0] 25) = wc at *
  generalize wA.heap.size = bm at *
  have hge := HR1.out.err
  obtain ⟨c0, c1, c2, c3, c4⟩ := HN1.out.bx
  have cf := HN1.out.free
  obtain ⟨m0, m1, m2, m3, m4⟩ := HM1.out.bx
  have mf := HM1.out.free
  go_wp2
  go_region
  all_goals
    go_wp2
    exact bodyPost_ret (v := pairVE vZero e1) (by simp [results, Tryz.results155, go_sem, c0, c1, c2, c3, c4]) rfl (GetR.drew (GetR.mk (w := w) rfl HR1.out HO1.out HG.out HN1.out _ _ _ _ _))

set_option maxHeartbeats 4000000 in
theorem rGet_none (g : Nat) (rest : List UInt8) (e : Int) (n : Nat) (r1 : List UInt8) (e1 : Int) (hst : stepF 8 alInt rest e = (n, r1, e1)) (w : World) (hr : RfS w g rest e) (he : e1 = 0) (h1 : wrap64 (n : Int) ≠ 1) (h2 : wrap64 (n : Int) ≠ 2) (h3 : wrap64 (n : Int) ≠ 3) (h4 : wrap64 (n : Int) ≠ 4) : Calls Tryz.prog 155 #[.pointer (some ⟨g, 0, none⟩)] w (GetR g vZero 12 r1 e1 w) := by
  have hgl := hr.lt
  have q1 : ∀ W, Below w.heap.size w W → Calls Tryz.prog 95 #[.pointer (some ⟨g, 0, none⟩)] W (DidR g (.int .i64 (wrap64 (n : Int))) r1 e1 W) := fun W hb => by
    have h := rfInt_any g rest e W (hr.below hb)
    rwa [hst] at h
  subst he
  have d1 : (wrap64 (n : Int) == 1) = false := by simpa using h1
  have d2 : (wrap64 (n : Int) == 2) = false := by simpa using h2
  have d3 : (wrap64 (n : Int) == 3) = false := by simpa using h3
  have d4 : (wrap64 (n : Int) == 4) = false := by simpa using h4
  clear h1 h2 h3 h4
  have HW0 := Lib.hid ((Below.refl w.heap.size w).alloc (Nat.le_refl _) (.cells #[.int .i64 0, .int .i64 0, .bool false, .string ⟨#[]⟩, .float .f64 0] 25))
  have hne : w.heap.size ≠ g := by omega
  have HB0 := Lib.hid (show Bh (w.alloc (.cells #[.int .i64 0, .int .i64 0, .bool false, .string ⟨#[]⟩, .float .f64 0] 25)) w.heap.size vZero from heap_alloc_new w _)
  have Q1 := Lib.hid q1
  have HG := Lib.hid hgl
  clear q1 hr hst hgl
  have hsf := fun (w : World) (a : Addr) (m : Mode) (b : Nat) => run_store Tryz.prog w a (.float .f64 b) m rfl
  go_enter Tryz.func155, Tryz.ntmps155
  go_wp2_with fail
  refine (Q1.out _ HW0.out).mono ?_
  rintro e wA ⟨rfl, hr1, ho1⟩
  have hzA : w.heap.size < wA.heap.size := by have := ho1.size; simp at this; omega
  have hgA : g < wA.heap.size := hr1.lt
  have hbl : Below wA.heap.size wA (wA.alloc (.cells #[.int .i64 0, .int .i64 0, .bool false, .string ⟨#[]⟩, .float .f64 0] 25)) := (Below.refl _ _).alloc (Nat.le_refl _) _
  have HO1 := Lib.hid ((Only.trans' (w := w) HW0.out ho1).below hbl)
  have HN1 := Lib.hid ((HB0.out.only ho1 hne).below hbl)
  have HM1 := Lib.hid (show Bh (wA.alloc (.cells #[.int .i64 0, .int .i64 0, .bool false, .string ⟨#[]⟩, .float .f64 0] 25)) wA.heap.size vZero from heap_alloc_new wA _)
  have HR1 := Lib.hid (hr1.below hbl)
  have hgM : wA.heap.size ≠ g := by omega
  have hgL : g < wA.heap.size := hgA
  have hwM : w.heap.size ≤ wA.heap.size := by omega
  have hNM : w.heap.size ≠ wA.heap.size := by omega
  clear hr1 ho1 hbl hzA hgA
  go_upto_region 3 with fail
  generalize wA.alloc (.cells #[.int .i64 0, .int .i64 0, .bool false, .string ⟨#[]⟩, .float .f64 0] 25) = wc at *
  generalize wA.heap.size = bm at *
  have hge := HR1.out.err
  obtain ⟨c0, c1, c2, c3, c4⟩ := HN1.out.bx
  have cf := HN1.out.free
  obtain ⟨m0, m1, m2, m3, m4⟩ := HM1.out.bx
  have mf := HM1.out.free
  go_wp2
  exact bodyPost_ret (v := pairVE vZero 12) (by simp [results, Tryz.results155, go_sem, c0, c1, c2, c3, c4]) rfl (GetR.mk (w := w) rfl HR1.out HO1.out HG.out HN1.out _ _ _ _ _)

set_option maxHeartbeats 4000000 in
theorem rGet_1ok (g : Nat) (rest : List UInt8) (e : Int) (n : Nat) (r1 : List UInt8) (e1 : Int) (hst : stepF 8 alInt rest e = (n, r1, e1)) (w : World) (hr : RfS w g rest e) (he : e1 = 0) (hk : wrap64 (n : Int) = 1) (m : Nat) (r2 : List UInt8) (e2 : Int) (ht : stepF 8 alInt r1 e1 = (m, r2, e2)) (he2 : e2 = 0) : Calls Tryz.prog 155 #[.pointer (some ⟨g, 0, none⟩)] w (GetR g (vInt (wrap64 (m : Int))) 0 r2 e2 w) := by
  have hgl := hr.lt
  have q1 : ∀ W, Below w.heap.size w W → Calls Tryz.prog 95 #[.pointer (some ⟨g, 0, none⟩)] W (DidR g (.int .i64 (wrap64 (n : Int))) r1 e1 W) := fun W hb => by
    have h := rfInt_any g rest e W (hr.below hb)
    rwa [hst] at h
  have d1 : (wrap64 (n : Int) == 1) = true := by rw [hk]; rfl
  have d2 : (wrap64 (n : Int) == 2) = false := by rw [hk]; rfl
  have d3 : (wrap64 (n : Int) == 3) = false := by rw [hk]; rfl
  have d4 : (wrap64 (n : Int) == 4) = false := by rw [hk]; rfl
  have d9 : (e2 != 0) = false := by simp [he2]
  have q2 : ∀ W, RfS W g r1 e1 → Calls Tryz.prog 95 #[.pointer (some ⟨g, 0, none⟩)] W (DidR g (.int .i64 (wrap64 (m : Int))) r2 e2 W) := fun W h => by
    have h := rfInt_any g r1 e1 W h
    rwa [ht] at h
  clear ht he2
  obtain ⟨i, hi⟩ : ∃ i, wrap64 (m : Int) = i := ⟨_, rfl⟩
  rw [hi] at q2 ⊢
  clear hi
  have Q2 := Lib.hid q2
  clear q2 hk
  subst he
  have HW0 := Lib.hid ((Below.refl w.heap.size w).alloc (Nat.le_refl _) (.cells #[.int .i64 0, .int .i64 0, .bool false, .string ⟨#[]⟩, .float .f64 0] 25))
  have hne : w.heap.size ≠ g := by omega
  have HB0 := Lib.hid (show Bh (w.alloc (.cells #[.int .i64 0, .int .i64 0, .bool false, .string ⟨#[]⟩, .float .f64 0] 25)) w.heap.size vZero from heap_alloc_new w _)
  have Q1 := Lib.hid q1
  have HG := Lib.hid hgl
  clear q1 hr hst hgl
  have hsf := fun (w : World) (a : Addr) (m : Mode) (b : Nat) => run_store Tryz.prog w a (.float .f64 b) m rfl
  go_enter Tryz.func155, Tryz.ntmps155
  go_wp2_with fail
  refine (Q1.out _ HW0.out).mono ?_
  rintro e wA ⟨rfl, hr1, ho1⟩
  have hzA : w.heap.size < wA.heap.size := by have := ho1.size; simp at this; omega
  have hgA : g < wA.heap.size := hr1.lt
  have hbl : Below wA.heap.size wA (wA.alloc (.cells #[.int .i64 0, .int .i64 0, .bool false, .string ⟨#[]⟩, .float .f64 0] 25)) := (Below.refl _ _).alloc (Nat.le_refl _) _
  have HO1 := Lib.hid ((Only.trans' (w := w) HW0.out ho1).below hbl)
  have HN1 := Lib.hid ((HB0.out.only ho1 hne).below hbl)
  have HM1 := Lib.hid (show Bh (wA.alloc (.cells #[.int .i64 0, .int .i64 0, .bool false, .string ⟨#[]⟩, .float .f64 0] 25)) wA.heap.size vZero from heap_alloc_new wA _)
  have HR1 := Lib.hid (hr1.below hbl)
  have hgM : wA.heap.size ≠ g := by omega
  have hgL : g < wA.heap.size := hgA
  have hwM : w.heap.size ≤ wA.heap.size := by omega
  have hNM : w.heap.size ≠ wA.heap.size := by omega
  clear hr1 ho1 hbl hzA hgA
  go_upto_region 3 with fail
  generalize wA.alloc (.cells #[.int .i64 0, .int .i64 0, .bool false, .string ⟨#[]⟩, .float .f64 0] 25) = wc at *
  generalize wA.heap.size = bm at *
  have hge := HR1.out.err
  obtain ⟨m_0, m_1, m_2, m_3, m_4⟩ := HM1.out.bx
  have mf_ := HM1.out.free
  go_wp2_with fail
  refine (Q2.out _ HR1.out).mono ?_
  rintro e wB ⟨rfl, hr2, ho2⟩
  clear m_0 m_1 m_2 m_3 m_4 mf_ hge
  have HO2 := Lib.hid (HO1.out.trans ho2)
  have HN2 := Lib.hid (HN1.out.only ho2 hne)
  have HM2 := Lib.hid (HM1.out.only ho2 hgM)
  have HR2 := Lib.hid hr2
  clear hr2 ho2
  go_wp2_with fail
  refine (rIntV_any i _).mono ?_
  rintro e wD ⟨rfl, hbD⟩
  have HO2 := Lib.hid (Only.below HO2.out hbD)
  have HN2 := Lib.hid (HN2.out.below hbD)
  have HM2 := Lib.hid (HM2.out.below hbD)
  have HR2 := Lib.hid (HR2.out.below hbD)
  clear hbD
  obtain ⟨p0, p1, p2, p3, p4⟩ := HM2.out.bx
  have pf := HM2.out.free
  go_upto_region 15 with fail
  have HM3 := Lib.hid (HM2.out.set5 (vInt i))
  have HN3 := Lib.hid (HN2.out.only (only_self5 bm wD (.int .i64 (vInt i).k) (.int .i64 (vInt i).i) (.bool (vInt i).b) (.string (vInt i).s) (.float .f64 (vInt i).n)) hNM)
  have HR3 := Lib.hid (HR2.out.off (only_self5 bm wD (.int .i64 (vInt i).k) (.int .i64 (vInt i).i) (.bool (vInt i).b) (.string (vInt i).s) (.float .f64 (vInt i).n)) hgL HM2.out)
  have HO3 := Lib.hid (Only.set5 HO2.out hwM (.int .i64 (vInt i).k) (.int .i64 (vInt i).i) (.bool (vInt i).b) (.string (vInt i).s) (.float .f64 (vInt i).n))
  simp only at HM3 HN3 HR3 HO3
  clear p0 p1 p2 p3 p4 pf
  generalize (((((wD.setCell ⟨bm, 0, none⟩ _).setCell ⟨bm, 1, none⟩ _).setCell ⟨bm, 2, none⟩ _).setCell ⟨bm, 3, none⟩ _).setCell ⟨bm, 4, none⟩ _) = wd at *
  have hge := HR3.out.err
  obtain ⟨c0, c1, c2, c3, c4⟩ := HN3.out.bx
  have cf := HN3.out.free
  obtain ⟨p0, p1, p2, p3, p4⟩ := HM3.out.bx
  have pf := HM3.out.free
  simp only at p0 p1 p2 p3 p4
  go_wp2
  exact bodyPost_ret (v := pairVE (vInt i) 0) (by simp [results, Tryz.results155, go_sem, c0, c1, c2, c3, c4]) rfl (GetR.mk (w := w) rfl HR3.out HO3.out HG.out HN3.out _ _ _ _ _)

set_option maxHeartbeats 4000000 in
theorem rGet_1no (g : Nat) (rest : List UInt8) (e : Int) (n : Nat) (r1 : List UInt8) (e1 : Int) (hst : stepF 8 alInt rest e = (n, r1, e1)) (w : World) (hr : RfS w g rest e) (he : e1 = 0) (hk : wrap64 (n : Int) = 1) (m : Nat) (r2 : List UInt8) (e2 : Int) (ht : stepF 8 alInt r1 e1 = (m, r2, e2)) (he2 : e2 ≠ 0) : Calls Tryz.prog 155 #[.pointer (some ⟨g, 0, none⟩)] w (GetR g vZero e2 r2 e2 w) := by
  have hgl := hr.lt
  have q1 : ∀ W, Below w.heap.size w W → Calls Tryz.prog 95 #[.pointer (some ⟨g, 0, none⟩)] W (DidR g (.int .i64 (wrap64 (n : Int))) r1 e1 W) := fun W hb => by
    have h := rfInt_any g rest e W (hr.below hb)
    rwa [hst] at h
  have d1 : (wrap64 (n : Int) == 1) = true := by rw [hk]; rfl
  have d2 : (wrap64 (n : Int) == 2) = false := by rw [hk]; rfl
  have d3 : (wrap64 (n : Int) == 3) = false := by rw [hk]; rfl
  have d4 : (wrap64 (n : Int) == 4) = false := by rw [hk]; rfl
  have d9 : (e2 != 0) = true := by simpa using he2
  have q2 : ∀ W, RfS W g r1 e1 → Calls Tryz.prog 95 #[.pointer (some ⟨g, 0, none⟩)] W (DidR g (.int .i64 (wrap64 (m : Int))) r2 e2 W) := fun W h => by
    have h := rfInt_any g r1 e1 W h
    rwa [ht] at h
  clear ht he2
  obtain ⟨i, hi⟩ : ∃ i, wrap64 (m : Int) = i := ⟨_, rfl⟩
  rw [hi] at q2
  clear hi
  have Q2 := Lib.hid q2
  clear q2 hk
  subst he
  have HW0 := Lib.hid ((Below.refl w.heap.size w).alloc (Nat.le_refl _) (.cells #[.int .i64 0, .int .i64 0, .bool false, .string ⟨#[]⟩, .float .f64 0] 25))
  have hne : w.heap.size ≠ g := by omega
  have HB0 := Lib.hid (show Bh (w.alloc (.cells #[.int .i64 0, .int .i64 0, .bool false, .string ⟨#[]⟩, .float .f64 0] 25)) w.heap.size vZero from heap_alloc_new w _)
  have Q1 := Lib.hid q1
  have HG := Lib.hid hgl
  clear q1 hr hst hgl
  have hsf := fun (w : World) (a : Addr) (m : Mode) (b : Nat) => run_store Tryz.prog w a (.float .f64 b) m rfl
  go_enter Tryz.func155, Tryz.ntmps155
  go_wp2_with fail
  refine (Q1.out _ HW0.out).mono ?_
  rintro e wA ⟨rfl, hr1, ho1⟩
  have hzA : w.heap.size < wA.heap.size := by have := ho1.size; simp at this; omega
  have hgA : g < wA.heap.size := hr1.lt
  have hbl : Below wA.heap.size wA (wA.alloc (.cells #[.int .i64 0, .int .i64 0, .bool false, .string ⟨#[]⟩, .float .f64 0] 25)) := (Below.refl _ _).alloc (Nat.le_refl _) _
  have HO1 := Lib.hid ((Only.trans' (w := w) HW0.out ho1).below hbl)
  have HN1 := Lib.hid ((HB0.out.only ho1 hne).below hbl)
  have HM1 := Lib.hid (show Bh (wA.alloc (.cells #[.int .i64 0, .int .i64 0, .bool false, .string ⟨#[]⟩, .float .f64 0] 25)) wA.heap.size vZero from heap_alloc_new wA _)
  have HR1 := Lib.hid (hr1.below hbl)
  have hgM : wA.heap.size ≠ g := by omega
  have hgL : g < wA.heap.size := hgA
  have hwM : w.heap.size ≤ wA.heap.size := by omega
  have hNM : w.heap.size ≠ wA.heap.size := by omega
  clear hr1 ho1 hbl hzA hgA
  go_upto_region 3 with fail
  generalize wA.alloc (.cells #[.int .i64 0, .int .i64 0, .bool false, .string ⟨#[]⟩, .float .f64 0] 25) = wc at *
  generalize wA.heap.size = bm at *
  have hge := HR1.out.err
  obtain ⟨m_0, m_1, m_2, m_3, m_4⟩ := HM1.out.bx
  have mf_ := HM1.out.free
  go_wp2_with fail
  refine (Q2.out _ HR1.out).mono ?_
  rintro e wB ⟨rfl, hr2, ho2⟩
  clear m_0 m_1 m_2 m_3 m_4 mf_ hge
  have HO2 := Lib.hid (HO1.out.trans ho2)
  have HN2 := Lib.hid (HN1.out.only ho2 hne)
  have HM2 := Lib.hid (HM1.out.only ho2 hgM)
  have HR2 := Lib.hid hr2
  clear hr2 ho2
  go_wp2_with fail
  refine (rIntV_any i _).mono ?_
  rintro e wD ⟨rfl, hbD⟩
  have HO2 := Lib.hid (Only.below HO2.out hbD)
  have HN2 := Lib.hid (HN2.out.below hbD)
  have HM2 := Lib.hid (HM2.out.below hbD)
  have HR2 := Lib.hid (HR2.out.below hbD)
  clear hbD
  obtain ⟨p0, p1, p2, p3, p4⟩ := HM2.out.bx
  have pf := HM2.out.free
  go_upto_region 15 with fail
  have HM3 := Lib.hid (HM2.out.set5 (vInt i))
  have HN3 := Lib.hid (HN2.out.only (only_self5 bm wD (.int .i64 (vInt i).k) (.int .i64 (vInt i).i) (.bool (vInt i).b) (.string (vInt i).s) (.float .f64 (vInt i).n)) hNM)
  have HR3 := Lib.hid (HR2.out.off (only_self5 bm wD (.int .i64 (vInt i).k) (.int .i64 (vInt i).i) (.bool (vInt i).b) (.string (vInt i).s) (.float .f64 (vInt i).n)) hgL HM2.out)
  have HO3 := Lib.hid (Only.set5 HO2.out hwM (.int .i64 (vInt i).k) (.int .i64 (vInt i).i) (.bool (vInt i).b) (.string (vInt i).s) (.float .f64 (vInt i).n))
  simp only at HM3 HN3 HR3 HO3
  clear p0 p1 p2 p3 p4 pf
  generalize (((((wD.setCell ⟨bm, 0, none⟩ _).setCell ⟨bm, 1, none⟩ _).setCell ⟨bm, 2, none⟩ _).setCell ⟨bm, 3, none⟩ _).setCell ⟨bm, 4, none⟩ _) = wd at *
  have hge := HR3.out.err
  obtain ⟨c0, c1, c2, c3, c4⟩ := HN3.out.bx
  have cf := HN3.out.free
  obtain ⟨p0, p1, p2, p3, p4⟩ := HM3.out.bx
  have pf := HM3.out.free
  simp only at p0 p1 p2 p3 p4
  go_wp2
  go_region
  all_goals
    go_wp2
    exact bodyPost_ret (v := pairVE vZero e2) (by simp [results, Tryz.results155, go_sem, c0, c1, c2, c3, c4]) rfl (GetR.drew (GetR.mk (w := w) rfl HR3.out HO3.out HG.out HN3.out _ _ _ _ _))

set_option maxHeartbeats 4000000 in
theorem rGet_2ok (g : Nat) (rest : List UInt8) (e : Int) (n : Nat) (r1 : List UInt8) (e1 : Int) (hst : stepF 8 alInt rest e = (n, r1, e1)) (w : World) (hr : RfS w g rest e) (he : e1 = 0) (hk : wrap64 (n : Int) = 2) (m : Nat) (r2 : List UInt8) (e2 : Int) (ht : stepF 1 alBool r1 e1 = (m, r2, e2)) (he2 : e2 = 0) : Calls Tryz.prog 155 #[.pointer (some ⟨g, 0, none⟩)] w (GetR g (vTruth (decide (m = 1))) 0 r2 e2 w) := by
  have hgl := hr.lt
  have q1 : ∀ W, Below w.heap.size w W → Calls Tryz.prog 95 #[.pointer (some ⟨g, 0, none⟩)] W (DidR g (.int .i64 (wrap64 (n : Int))) r1 e1 W) := fun W hb => by
    have h := rfInt_any g rest e W (hr.below hb)
    rwa [hst] at h
  have d1 : (wrap64 (n : Int) == 1) = false := by rw [hk]; rfl
  have d2 : (wrap64 (n : Int) == 2) = true := by rw [hk]; rfl
  have d3 : (wrap64 (n : Int) == 3) = false := by rw [hk]; rfl
  have d4 : (wrap64 (n : Int) == 4) = false := by rw [hk]; rfl
  have d9 : (e2 != 0) = false := by simp [he2]
  have q2 : ∀ W, RfS W g r1 e1 → Calls Tryz.prog 193 #[.pointer (some ⟨g, 0, none⟩)] W (DidR g (.bool (decide (m = 1))) r2 e2 W) := fun W h => by
    have h := rfBool_any g r1 e1 W h
    rwa [ht] at h
  clear ht he2
  have Q2 := Lib.hid q2
  clear q2 hk
  subst he
  have HW0 := Lib.hid ((Below.refl w.heap.size w).alloc (Nat.le_refl _) (.cells #[.int .i64 0, .int .i64 0, .bool false, .string ⟨#[]⟩, .float .f64 0] 25))
  have hne : w.heap.size ≠ g := by omega
  have HB0 := Lib.hid (show Bh (w.alloc (.cells #[.int .i64 0, .int .i64 0, .bool false, .string ⟨#[]⟩, .float .f64 0] 25)) w.heap.size vZero from heap_alloc_new w _)
  have Q1 := Lib.hid q1
  have HG := Lib.hid hgl
  clear q1 hr hst hgl
  have hsf := fun (w : World) (a : Addr) (m : Mode) (b : Nat) => run_store Tryz.prog w a (.float .f64 b) m rfl
  go_enter Tryz.func155, Tryz.ntmps155
  go_wp2_with fail
  refine (Q1.out _ HW0.out).mono ?_
  rintro e wA ⟨rfl, hr1, ho1⟩
  have hzA : w.heap.size < wA.heap.size := by have := ho1.size; simp at this; omega
  have hgA : g < wA.heap.size := hr1.lt
  have hbl : Below wA.heap.size wA (wA.alloc (.cells #[.int .i64 0, .int .i64 0, .bool false, .string ⟨#[]⟩, .float .f64 0] 25)) := (Below.refl _ _).alloc (Nat.le_refl _) _
  have HO1 := Lib.hid ((Only.trans' (w := w) HW0.out ho1).below hbl)
  have HN1 := Lib.hid ((HB0.out.only ho1 hne).below hbl)
  have HM1 := Lib.hid (show Bh (wA.alloc (.cells #[.int .i64 0, .int .i64 0, .bool false, .string ⟨#[]⟩, .float .f64 0] 25)) wA.heap.size vZero from heap_alloc_new wA _)
  have HR1 := Lib.hid (hr1.below hbl)
  have hgM : wA.heap.size ≠ g := by omega
  have hgL : g < wA.heap.size := hgA
  have hwM : w.heap.size ≤ wA.heap.size := by omega
  have hNM : w.heap.size ≠ wA.heap.size := by omega
  clear hr1 ho1 hbl hzA hgA
  go_upto_region 3 with fail
  generalize wA.alloc (.cells #[.int .i64 0, .int .i64 0, .bool false, .string ⟨#[]⟩, .float .f64 0] 25) = wc at *
  generalize wA.heap.size = bm at *
  have hge := HR1.out.err
  obtain ⟨m_0, m_1, m_2, m_3, m_4⟩ := HM1.out.bx
  have mf_ := HM1.out.free
  go_wp2_with fail
  refine (Q2.out _ HR1.out).mono ?_
  rintro e wB ⟨rfl, hr2, ho2⟩
  clear m_0 m_1 m_2 m_3 m_4 mf_ hge
  have HO2 := Lib.hid (HO1.out.trans ho2)
  have HN2 := Lib.hid (HN1.out.only ho2 hne)
  have HM2 := Lib.hid (HM1.out.only ho2 hgM)
  have HR2 := Lib.hid hr2
  clear hr2 ho2
  go_wp2_with fail
  refine (rTruthV_any (decide (m = 1)) _).mono ?_
  rintro e wD ⟨rfl, hbD⟩
  have HO2 := Lib.hid (Only.below HO2.out hbD)
  have HN2 := Lib.hid (HN2.out.below hbD)
  have HM2 := Lib.hid (HM2.out.below hbD)
  have HR2 := Lib.hid (HR2.out.below hbD)
  clear hbD
  obtain ⟨p0, p1, p2, p3, p4⟩ := HM2.out.bx
  have pf := HM2.out.free
  go_upto_region 15 with fail
  have HM3 := Lib.hid (HM2.out.set5 (vTruth (decide (m = 1))))
  have HN3 := Lib.hid (HN2.out.only (only_self5 bm wD (.int .i64 (vTruth (decide (m = 1))).k) (.int .i64 (vTruth (decide (m = 1))).i) (.bool (vTruth (decide (m = 1))).b) (.string (vTruth (decide (m = 1))).s) (.float .f64 (vTruth (decide (m = 1))).n)) hNM)
  have HR3 := Lib.hid (HR2.out.off (only_self5 bm wD (.int .i64 (vTruth (decide (m = 1))).k) (.int .i64 (vTruth (decide (m = 1))).i) (.bool (vTruth (decide (m = 1))).b) (.string (vTruth (decide (m = 1))).s) (.float .f64 (vTruth (decide (m = 1))).n)) hgL HM2.out)
  have HO3 := Lib.hid (Only.set5 HO2.out hwM (.int .i64 (vTruth (decide (m = 1))).k) (.int .i64 (vTruth (decide (m = 1))).i) (.bool (vTruth (decide (m = 1))).b) (.string (vTruth (decide (m = 1))).s) (.float .f64 (vTruth (decide (m = 1))).n))
  simp only at HM3 HN3 HR3 HO3
  clear p0 p1 p2 p3 p4 pf
  generalize (((((wD.setCell ⟨bm, 0, none⟩ _).setCell ⟨bm, 1, none⟩ _).setCell ⟨bm, 2, none⟩ _).setCell ⟨bm, 3, none⟩ _).setCell ⟨bm, 4, none⟩ _) = wd at *
  have hge := HR3.out.err
  obtain ⟨c0, c1, c2, c3, c4⟩ := HN3.out.bx
  have cf := HN3.out.free
  obtain ⟨p0, p1, p2, p3, p4⟩ := HM3.out.bx
  have pf := HM3.out.free
  simp only at p0 p1 p2 p3 p4
  go_wp2
  exact bodyPost_ret (v := pairVE (vTruth (decide (m = 1))) 0) (by simp [results, Tryz.results155, go_sem, c0, c1, c2, c3, c4]) rfl (GetR.mk (w := w) rfl HR3.out HO3.out HG.out HN3.out _ _ _ _ _)

set_option maxHeartbeats 4000000 in
theorem rGet_2no (g : Nat) (rest : List UInt8) (e : Int) (n : Nat) (r1 : List UInt8) (e1 : Int) (hst : stepF 8 alInt rest e = (n, r1, e1)) (w : World) (hr : RfS w g rest e) (he : e1 = 0) (hk : wrap64 (n : Int) = 2) (m : Nat) (r2 : List UInt8) (e2 : Int) (ht : stepF 1 alBool r1 e1 = (m, r2, e2)) (he2 : e2 ≠ 0) : Calls Tryz.prog 155 #[.pointer (some ⟨g, 0, none⟩)] w (GetR g vZero e2 r2 e2 w) := by
  have hgl := hr.lt
  have q1 : ∀ W, Below w.heap.size w W → Calls Tryz.prog 95 #[.pointer (some ⟨g, 0, none⟩)] W (DidR g (.int .i64 (wrap64 (n : Int))) r1 e1 W) := fun W hb => by
    have h := rfInt_any g rest e W (hr.below hb)
    rwa [hst] at h
  have d1 : (wrap64 (n : Int) == 1) = false := by rw [hk]; rfl
  have d2 : (wrap64 (n : Int) == 2) = true := by rw [hk]; rfl
  have d3 : (wrap64 (n : Int) == 3) = false := by rw [hk]; rfl
  have d4 : (wrap64 (n : Int) == 4) = false := by rw [hk]; rfl
  have d9 : (e2 != 0) = true := by simpa using he2
  have q2 : ∀ W, RfS W g r1 e1 → Calls Tryz.prog 193 #[.pointer (some ⟨g, 0, none⟩)] W (DidR g (.bool (decide (m = 1))) r2 e2 W) := fun W h => by
    have h := rfBool_any g r1 e1 W h
    rwa [ht] at h
  clear ht he2
  have Q2 := Lib.hid q2
  clear q2 hk
  subst he
  have HW0 := Lib.hid ((Below.refl w.heap.size w).alloc (Nat.le_refl _) (.cells #[.int .i64 0, .int .i64 0, .bool false, .string ⟨#[]⟩, .float .f64 0] 25))
  have hne : w.heap.size ≠ g := by omega
  have HB0 := Lib.hid (show Bh (w.alloc (.cells #[.int .i64 0, .int .i64 0, .bool false, .string ⟨#[]⟩, .float .f64 0] 25)) w.heap.size vZero from heap_alloc_new w _)
  have Q1 := Lib.hid q1
  have HG := Lib.hid hgl
  clear q1 hr hst hgl
  have hsf := fun (w : World) (a : Addr) (m : Mode) (b : Nat) => run_store Tryz.prog w a (.float .f64 b) m rfl
  go_enter Tryz.func155, Tryz.ntmps155
  go_wp2_with fail
  refine (Q1.out _ HW0.out).mono ?_
  rintro e wA ⟨rfl, hr1, ho1⟩
  have hzA : w.heap.size < wA.heap.size := by have := ho1.size; simp at this; omega
  have hgA : g < wA.heap.size := hr1.lt
  have hbl : Below wA.heap.size wA (wA.alloc (.cells #[.int .i64 0, .int .i64 0, .bool false, .string ⟨#[]⟩, .float .f64 0] 25)) := (Below.refl _ _).alloc (Nat.le_refl _) _
  have HO1 := Lib.hid ((Only.trans' (w := w) HW0.out ho1).below hbl)
  have HN1 := Lib.hid ((HB0.out.only ho1 hne).below hbl)
  have HM1 := Lib.hid (show Bh (wA.alloc (.cells #[.int .i64 0, .int .i64 0, .bool false, .string ⟨#[]⟩, .float .f64 0] 25)) wA.heap.size vZero from heap_alloc_new wA _)
  have HR1 := Lib.hid (hr1.below hbl)
  have hgM : wA.heap.size ≠ g := by omega
  have hgL : g < wA.heap.size := hgA
  have hwM : w.heap.size ≤ wA.heap.size := by omega
  have hNM : w.heap.size ≠ wA.heap.size := by omega
  clear hr1 ho1 hbl hzA hgA
  go_upto_region 3 with fail
  generalize wA.alloc (.cells #[.int .i64 0, .int .i64 0, .bool false, .string ⟨#[]⟩, .float .f64 0] 25) = wc at *
  generalize wA.heap.size = bm at *
  have hge := HR1.out.err
  obtain ⟨m_0, m_1, m_2, m_3, m_4⟩ := HM1.out.bx
  have mf_ := HM1.out.free
  go_wp2_with fail
  refine (Q2.out _ HR1.out).mono ?_
  rintro e wB ⟨rfl, hr2, ho2⟩
  clear m_0 m_1 m_2 m_3 m_4 mf_ hge
  have HO2 := Lib.hid (HO1.out.trans ho2)
  have HN2 := Lib.hid (HN1.out.only ho2 hne)
  have HM2 := Lib.hid (HM1.out.only ho2 hgM)
  have HR2 := Lib.hid hr2
  clear hr2 ho2
  go_wp2_with fail
  refine (rTruthV_any (decide (m = 1)) _).mono ?_
  rintro e wD ⟨rfl, hbD⟩
  have HO2 := Lib.hid (Only.below HO2.out hbD)
  have HN2 := Lib.hid (HN2.out.below hbD)
  have HM2 := Lib.hid (HM2.out.below hbD)
  have HR2 := Lib.hid (HR2.out.below hbD)
  clear hbD
  obtain ⟨p0, p1, p2, p3, p4⟩ := HM2.out.bx
  have pf := HM2.out.free
  go_upto_region 15 with fail
  have HM3 := Lib.hid (HM2.out.set5 (vTruth (decide (m = 1))))
  have HN3 := Lib.hid (HN2.out.only (only_self5 bm wD (.int .i64 (vTruth (decide (m = 1))).k) (.int .i64 (vTruth (decide (m = 1))).i) (.bool (vTruth (decide (m = 1))).b) (.string (vTruth (decide (m = 1))).s) (.float .f64 (vTruth (decide (m = 1))).n)) hNM)
  have HR3 := Lib.hid (HR2.out.off (only_self5 bm wD (.int .i64 (vTruth (decide (m = 1))).k) (.int .i64 (vTruth (decide (m = 1))).i) (.bool (vTruth (decide (m = 1))).b) (.string (vTruth (decide (m = 1))).s) (.float .f64 (vTruth (decide (m = 1))).n)) hgL HM2.out)
  have HO3 := Lib.hid (Only.set5 HO2.out hwM (.int .i64 (vTruth (decide (m = 1))).k) (.int .i64 (vTruth (decide (m = 1))).i) (.bool (vTruth (decide (m = 1))).b) (.string (vTruth (decide (m = 1))).s) (.float .f64 (vTruth (decide (m = 1))).n))
  simp only at HM3 HN3 HR3 HO3
  clear p0 p1 p2 p3 p4 pf
  generalize (((((wD.setCell ⟨bm, 0, none⟩ _).setCell ⟨bm, 1, none⟩ _).setCell ⟨bm, 2, none⟩ _).setCell ⟨bm, 3, none⟩ _).setCell ⟨bm, 4, none⟩ _) = wd at *
  have hge := HR3.out.err
  obtain ⟨c0, c1, c2, c3, c4⟩ := HN3.out.bx
  have cf := HN3.out.free
  obtain ⟨p0, p1, p2, p3, p4⟩ := HM3.out.bx
  have pf := HM3.out.free
  simp only at p0 p1 p2 p3 p4
  go_wp2
  go_region
  all_goals
    go_wp2
    exact bodyPost_ret (v := pairVE vZero e2) (by simp [results, Tryz.results155, go_sem, c0, c1, c2, c3, c4]) rfl (GetR.drew (GetR.mk (w := w) rfl HR3.out HO3.out HG.out HN3.out _ _ _ _ _))

set_option maxHeartbeats 4000000 in
theorem rGet_3ok (g : Nat) (rest : List UInt8) (e : Int) (n : Nat) (r1 : List UInt8) (e1 : Int) (hst : stepF 8 alInt rest e = (n, r1, e1)) (w : World) (hr : RfS w g rest e) (he : e1 = 0) (hk : wrap64 (n : Int) = 3) (m : List UInt8) (r2 : List UInt8) (e2 : Int) (ht : bytesF 32 r1 e1 = (m, r2, e2)) (he2 : e2 = 0) : Calls Tryz.prog 155 #[.pointer (some ⟨g, 0, none⟩)] w (GetR g (⟨3, 0, false, strB m, 0⟩) 0 r2 e2 w) := by
  have hgl := hr.lt
  have q1 : ∀ W, Below w.heap.size w W → Calls Tryz.prog 95 #[.pointer (some ⟨g, 0, none⟩)] W (DidR g (.int .i64 (wrap64 (n : Int))) r1 e1 W) := fun W hb => by
    have h := rfInt_any g rest e W (hr.below hb)
    rwa [hst] at h
  have d1 : (wrap64 (n : Int) == 1) = false := by rw [hk]; rfl
  have d2 : (wrap64 (n : Int) == 2) = false := by rw [hk]; rfl
  have d3 : (wrap64 (n : Int) == 3) = true := by rw [hk]; rfl
  have d4 : (wrap64 (n : Int) == 4) = false := by rw [hk]; rfl
  have d9 : (e2 != 0) = false := by simp [he2]
  have q2 : ∀ W, RfS W g r1 e1 → Calls Tryz.prog 86 #[.pointer (some ⟨g, 0, none⟩), .int .i64 32] W (DidRN g m r2 e2 W) := fun W h => by
    have h := rfBytes_any g r1 e1 32 (by decide) (by decide) W h
    rwa [ht] at h
  clear ht he2
  have Q2 := Lib.hid q2
  clear q2 hk
  subst he
  have HW0 := Lib.hid ((Below.refl w.heap.size w).alloc (Nat.le_refl _) (.cells #[.int .i64 0, .int .i64 0, .bool false, .string ⟨#[]⟩, .float .f64 0] 25))
  have hne : w.heap.size ≠ g := by omega
  have HB0 := Lib.hid (show Bh (w.alloc (.cells #[.int .i64 0, .int .i64 0, .bool false, .string ⟨#[]⟩, .float .f64 0] 25)) w.heap.size vZero from heap_alloc_new w _)
  have Q1 := Lib.hid q1
  have HG := Lib.hid hgl
  clear q1 hr hst hgl
  have hsf := fun (w : World) (a : Addr) (m : Mode) (b : Nat) => run_store Tryz.prog w a (.float .f64 b) m rfl
  go_enter Tryz.func155, Tryz.ntmps155
  go_wp2_with fail
  refine (Q1.out _ HW0.out).mono ?_
  rintro e wA ⟨rfl, hr1, ho1⟩
  have hzA : w.heap.size < wA.heap.size := by have := ho1.size; simp at this; omega
  have hgA : g < wA.heap.size := hr1.lt
  have hbl : Below wA.heap.size wA (wA.alloc (.cells #[.int .i64 0, .int .i64 0, .bool false, .string ⟨#[]⟩, .float .f64 0] 25)) := (Below.refl _ _).alloc (Nat.le_refl _) _
  have HO1 := Lib.hid ((Only.trans' (w := w) HW0.out ho1).below hbl)
  have HN1 := Lib.hid ((HB0.out.only ho1 hne).below hbl)
  have HM1 := Lib.hid (show Bh (wA.alloc (.cells #[.int .i64 0, .int .i64 0, .bool false, .string ⟨#[]⟩, .float .f64 0] 25)) wA.heap.size vZero from heap_alloc_new wA _)
  have HR1 := Lib.hid (hr1.below hbl)
  have hgM : wA.heap.size ≠ g := by omega
  have hgL : g < wA.heap.size := hgA
  have hwM : w.heap.size ≤ wA.heap.size := by omega
  have hNM : w.heap.size ≠ wA.heap.size := by omega
  clear hr1 ho1 hbl hzA hgA
  go_upto_region 3 with fail
  generalize wA.alloc (.cells #[.int .i64 0, .int .i64 0, .bool false, .string ⟨#[]⟩, .float .f64 0] 25) = wc at *
  generalize wA.heap.size = bm at *
  have hge := HR1.out.err
  obtain ⟨m_0, m_1, m_2, m_3, m_4⟩ := HM1.out.bx
  have mf_ := HM1.out.free
  go_wp2_with fail
  refine (Q2.out _ HR1.out).mono ?_
  rintro e wB ⟨u, rfl, hu, hr2, ho2, -⟩
  have hcv : (convert 28 9 u).run Tryz.prog wB = .ok (.string (strB m)) wB := run_str hu
  clear m_0 m_1 m_2 m_3 m_4 mf_ hge
  have HO2 := Lib.hid (HO1.out.trans ho2)
  have HN2 := Lib.hid (HN1.out.only ho2 hne)
  have HM2 := Lib.hid (HM1.out.only ho2 hgM)
  have HR2 := Lib.hid hr2
  clear hr2 ho2
  obtain ⟨p0, p1, p2, p3, p4⟩ := HM2.out.bx
  have pf := HM2.out.free
  go_upto_region 15 with fail
  have HM3 := Lib.hid (HM2.out.set5 (⟨3, 0, false, strB m, 0⟩))
  have HN3 := Lib.hid (HN2.out.only (only_self5 bm wB (.int .i64 (⟨3, 0, false, strB m, 0⟩ : Vl).k) (.int .i64 (⟨3, 0, false, strB m, 0⟩ : Vl).i) (.bool (⟨3, 0, false, strB m, 0⟩ : Vl).b) (.string (⟨3, 0, false, strB m, 0⟩ : Vl).s) (.float .f64 (⟨3, 0, false, strB m, 0⟩ : Vl).n)) hNM)
  have HR3 := Lib.hid (HR2.out.off (only_self5 bm wB (.int .i64 (⟨3, 0, false, strB m, 0⟩ : Vl).k) (.int .i64 (⟨3, 0, false, strB m, 0⟩ : Vl).i) (.bool (⟨3, 0, false, strB m, 0⟩ : Vl).b) (.string (⟨3, 0, false, strB m, 0⟩ : Vl).s) (.float .f64 (⟨3, 0, false, strB m, 0⟩ : Vl).n)) hgL HM2.out)
  have HO3 := Lib.hid (Only.set5 HO2.out hwM (.int .i64 (⟨3, 0, false, strB m, 0⟩ : Vl).k) (.int .i64 (⟨3, 0, false, strB m, 0⟩ : Vl).i) (.bool (⟨3, 0, false, strB m, 0⟩ : Vl).b) (.string (⟨3, 0, false, strB m, 0⟩ : Vl).s) (.float .f64 (⟨3, 0, false, strB m, 0⟩ : Vl).n))
  simp only at HM3 HN3 HR3 HO3
  clear p0 p1 p2 p3 p4 pf
  generalize (((((wB.setCell ⟨bm, 0, none⟩ _).setCell ⟨bm, 1, none⟩ _).setCell ⟨bm, 2, none⟩ _).setCell ⟨bm, 3, none⟩ _).setCell ⟨bm, 4, none⟩ _) = wd at *
  have hge := HR3.out.err
  obtain ⟨c0, c1, c2, c3, c4⟩ := HN3.out.bx
  have cf := HN3.out.free
  obtain ⟨p0, p1, p2, p3, p4⟩ := HM3.out.bx
  have pf := HM3.out.free
  simp only at p0 p1 p2 p3 p4
  go_wp2
  exact bodyPost_ret (v := pairVE (⟨3, 0, false, strB m, 0⟩) 0) (by simp [results, Tryz.results155, go_sem, c0, c1, c2, c3, c4]) rfl (GetR.mk (w := w) rfl HR3.out HO3.out HG.out HN3.out _ _ _ _ _)

set_option maxHeartbeats 4000000 in
theorem rGet_3no (g : Nat) (rest : List UInt8) (e : Int) (n : Nat) (r1 : List UInt8) (e1 : Int) (hst : stepF 8 alInt rest e = (n, r1, e1)) (w : World) (hr : RfS w g rest e) (he : e1 = 0) (hk : wrap64 (n : Int) = 3) (m : List UInt8) (r2 : List UInt8) (e2 : Int) (ht : bytesF 32 r1 e1 = (m, r2, e2)) (he2 : e2 ≠ 0) : Calls Tryz.prog 155 #[.pointer (some ⟨g, 0, none⟩)] w (GetR g vZero e2 r2 e2 w) := by
  have hgl := hr.lt
  have q1 : ∀ W, Below w.heap.size w W → Calls Tryz.prog 95 #[.pointer (some ⟨g, 0, none⟩)] W (DidR g (.int .i64 (wrap64 (n : Int))) r1 e1 W) := fun W hb => by
    have h := rfInt_any g rest e W (hr.below hb)
    rwa [hst] at h
  have d1 : (wrap64 (n : Int) == 1) = false := by rw [hk]; rfl
  have d2 : (wrap64 (n : Int) == 2) = false := by rw [hk]; rfl
  have d3 : (wrap64 (n : Int) == 3) = true := by rw [hk]; rfl
  have d4 : (wrap64 (n : Int) == 4) = false := by rw [hk]; rfl
  have d9 : (e2 != 0) = true := by simpa using he2
  have q2 : ∀ W, RfS W g r1 e1 → Calls Tryz.prog 86 #[.pointer (some ⟨g, 0, none⟩), .int .i64 32] W (DidRN g m r2 e2 W) := fun W h => by
    have h := rfBytes_any g r1 e1 32 (by decide) (by decide) W h
    rwa [ht] at h
  clear ht he2
  have Q2 := Lib.hid q2
  clear q2 hk
  subst he
  have HW0 := Lib.hid ((Below.refl w.heap.size w).alloc (Nat.le_refl _) (.cells #[.int .i64 0, .int .i64 0, .bool false, .string ⟨#[]⟩, .float .f64 0] 25))
  have hne : w.heap.size ≠ g := by omega
  have HB0 := Lib.hid (show Bh (w.alloc (.cells #[.int .i64 0, .int .i64 0, .bool false, .string ⟨#[]⟩, .float .f64 0] 25)) w.heap.size vZero from heap_alloc_new w _)
  have Q1 := Lib.hid q1
  have HG := Lib.hid hgl
  clear q1 hr hst hgl
  have hsf := fun (w : World) (a : Addr) (m : Mode) (b : Nat) => run_store Tryz.prog w a (.float .f64 b) m rfl
  go_enter Tryz.func155, Tryz.ntmps155
  go_wp2_with fail
  refine (Q1.out _ HW0.out).mono ?_
  rintro e wA ⟨rfl, hr1, ho1⟩
  have hzA : w.heap.size < wA.heap.size := by have := ho1.size; simp at this; omega
  have hgA : g < wA.heap.size := hr1.lt
  have hbl : Below wA.heap.size wA (wA.alloc (.cells #[.int .i64 0, .int .i64 0, .bool false, .string ⟨#[]⟩, .float .f64 0] 25)) := (Below.refl _ _).alloc (Nat.le_refl _) _
  have HO1 := Lib.hid ((Only.trans' (w := w) HW0.out ho1).below hbl)
  have HN1 := Lib.hid ((HB0.out.only ho1 hne).below hbl)
  have HM1 := Lib.hid (show Bh (wA.alloc (.cells #[.int .i64 0, .int .i64 0, .bool false, .string ⟨#[]⟩, .float .f64 0] 25)) wA.heap.size vZero from heap_alloc_new wA _)
  have HR1 := Lib.hid (hr1.below hbl)
  have hgM : wA.heap.size ≠ g := by omega
  have hgL : g < wA.heap.size := hgA
  have hwM : w.heap.size ≤ wA.heap.size := by omega
  have hNM : w.heap.size ≠ wA.heap.size := by omega
  clear hr1 ho1 hbl hzA hgA
  go_upto_region 3 with fail
  generalize wA.alloc (.cells #[.int .i64 0, .int .i64 0, .bool false, .string ⟨#[]⟩, .float .f64 0] 25) = wc at *
  generalize wA.heap.size = bm at *
  have hge := HR1.out.err
  obtain ⟨m_0, m_1, m_2, m_3, m_4⟩ := HM1.out.bx
  have mf_ := HM1.out.free
  go_wp2_with fail
  refine (Q2.out _ HR1.out).mono ?_
  rintro e wB ⟨u, rfl, hu, hr2, ho2, -⟩
  have hcv : (convert 28 9 u).run Tryz.prog wB = .ok (.string (strB m)) wB := run_str hu
  clear m_0 m_1 m_2 m_3 m_4 mf_ hge
  have HO2 := Lib.hid (HO1.out.trans ho2)
  have HN2 := Lib.hid (HN1.out.only ho2 hne)
  have HM2 := Lib.hid (HM1.out.only ho2 hgM)
  have HR2 := Lib.hid hr2
  clear hr2 ho2
  obtain ⟨p0, p1, p2, p3, p4⟩ := HM2.out.bx
  have pf := HM2.out.free
  go_upto_region 15 with fail
  have HM3 := Lib.hid (HM2.out.set5 (⟨3, 0, false, strB m, 0⟩))
  have HN3 := Lib.hid (HN2.out.only (only_self5 bm wB (.int .i64 (⟨3, 0, false, strB m, 0⟩ : Vl).k) (.int .i64 (⟨3, 0, false, strB m, 0⟩ : Vl).i) (.bool (⟨3, 0, false, strB m, 0⟩ : Vl).b) (.string (⟨3, 0, false, strB m, 0⟩ : Vl).s) (.float .f64 (⟨3, 0, false, strB m, 0⟩ : Vl).n)) hNM)
  have HR3 := Lib.hid (HR2.out.off (only_self5 bm wB (.int .i64 (⟨3, 0, false, strB m, 0⟩ : Vl).k) (.int .i64 (⟨3, 0, false, strB m, 0⟩ : Vl).i) (.bool (⟨3, 0, false, strB m, 0⟩ : Vl).b) (.string (⟨3, 0, false, strB m, 0⟩ : Vl).s) (.float .f64 (⟨3, 0, false, strB m, 0⟩ : Vl).n)) hgL HM2.out)
  have HO3 := Lib.hid (Only.set5 HO2.out hwM (.int .i64 (⟨3, 0, false, strB m, 0⟩ : Vl).k) (.int .i64 (⟨3, 0, false, strB m, 0⟩ : Vl).i) (.bool (⟨3, 0, false, strB m, 0⟩ : Vl).b) (.string (⟨3, 0, false, strB m, 0⟩ : Vl).s) (.float .f64 (⟨3, 0, false, strB m, 0⟩ : Vl).n))
  simp only at HM3 HN3 HR3 HO3
  clear p0 p1 p2 p3 p4 pf
  generalize (((((wB.setCell ⟨bm, 0, none⟩ _).setCell ⟨bm, 1, none⟩ _).setCell ⟨bm, 2, none⟩ _).setCell ⟨bm, 3, none⟩ _).setCell ⟨bm, 4, none⟩ _) = wd at *
  have hge := HR3.out.err
  obtain ⟨c0, c1, c2, c3, c4⟩ := HN3.out.bx
  have cf := HN3.out.free
  obtain ⟨p0, p1, p2, p3, p4⟩ := HM3.out.bx
  have pf := HM3.out.free
  simp only at p0 p1 p2 p3 p4
  go_wp2
  go_region
  all_goals
    go_wp2
    exact bodyPost_ret (v := pairVE vZero e2) (by simp [results, Tryz.results155, go_sem, c0, c1, c2, c3, c4]) rfl (GetR.drew (GetR.mk (w := w) rfl HR3.out HO3.out HG.out HN3.out _ _ _ _ _))

set_option maxHeartbeats 4000000 in
theorem rGet_4ok (g : Nat) (rest : List UInt8) (e : Int) (n : Nat) (r1 : List UInt8) (e1 : Int) (hst : stepF 8 alInt rest e = (n, r1, e1)) (w : World) (hr : RfS w g rest e) (he : e1 = 0) (hk : wrap64 (n : Int) = 4) (m : Nat) (r2 : List UInt8) (e2 : Int) (ht : stepF 8 alNum r1 e1 = (m, r2, e2)) (he2 : e2 = 0) : Calls Tryz.prog 155 #[.pointer (some ⟨g, 0, none⟩)] w (GetR g (vNum m) 0 r2 e2 w) := by
  have hgl := hr.lt
  have q1 : ∀ W, Below w.heap.size w W → Calls Tryz.prog 95 #[.pointer (some ⟨g, 0, none⟩)] W (DidR g (.int .i64 (wrap64 (n : Int))) r1 e1 W) := fun W hb => by
    have h := rfInt_any g rest e W (hr.below hb)
    rwa [hst] at h
  have d1 : (wrap64 (n : Int) == 1) = false := by rw [hk]; rfl
  have d2 : (wrap64 (n : Int) == 2) = false := by rw [hk]; rfl
  have d3 : (wrap64 (n : Int) == 3) = false := by rw [hk]; rfl
  have d4 : (wrap64 (n : Int) == 4) = true := by rw [hk]; rfl
  have d9 : (e2 != 0) = false := by simp [he2]
  have q2 : ∀ W, RfS W g r1 e1 → Calls Tryz.prog 162 #[.pointer (some ⟨g, 0, none⟩)] W (DidR g (.float .f64 m) r2 e2 W) := fun W h => by
    have h := rfNum_any g r1 e1 W h
    rwa [ht] at h
  have hms := num_same r1 e1
  rw [ht] at hms
  simp only at hms
  have hnv : ∀ W, Calls Tryz.prog 54 #[.float .f64 m] W (VMk (agV (vNum m)) W) := fun W => by
    have h := rNumV_any m W
    rwa [hms] at h
  have HNV := Lib.hid hnv
  clear hms hnv
  clear ht he2
  have Q2 := Lib.hid q2
  clear q2 hk
  subst he
  have HW0 := Lib.hid ((Below.refl w.heap.size w).alloc (Nat.le_refl _) (.cells #[.int .i64 0, .int .i64 0, .bool false, .string ⟨#[]⟩, .float .f64 0] 25))
  have hne : w.heap.size ≠ g := by omega
  have HB0 := Lib.hid (show Bh (w.alloc (.cells #[.int .i64 0, .int .i64 0, .bool false, .string ⟨#[]⟩, .float .f64 0] 25)) w.heap.size vZero from heap_alloc_new w _)
  have Q1 := Lib.hid q1
  have HG := Lib.hid hgl
  clear q1 hr hst hgl
  have hsf := fun (w : World) (a : Addr) (m : Mode) (b : Nat) => run_store Tryz.prog w a (.float .f64 b) m rfl
  go_enter Tryz.func155, Tryz.ntmps155
  go_wp2_with fail
  refine (Q1.out _ HW0.out).mono ?_
  rintro e wA ⟨rfl, hr1, ho1⟩
  have hzA : w.heap.size < wA.heap.size := by have := ho1.size; simp at this; omega
  have hgA : g < wA.heap.size := hr1.lt
  have hbl : Below wA.heap.size wA (wA.alloc (.cells #[.int .i64 0, .int .i64 0, .bool false, .string ⟨#[]⟩, .float .f64 0] 25)) := (Below.refl _ _).alloc (Nat.le_refl _) _
  have HO1 := Lib.hid ((Only.trans' (w := w) HW0.out ho1).below hbl)
  have HN1 := Lib.hid ((HB0.out.only ho1 hne).below hbl)
  have HM1 := Lib.hid (show Bh (wA.alloc (.cells #[.int .i64 0, .int .i64 0, .bool false, .string ⟨#[]⟩, .float .f64 0] 25)) wA.heap.size vZero from heap_alloc_new wA _)
  have HR1 := Lib.hid (hr1.below hbl)
  have hgM : wA.heap.size ≠ g := by omega
  have hgL : g < wA.heap.size := hgA
  have hwM : w.heap.size ≤ wA.heap.size := by omega
  have hNM : w.heap.size ≠ wA.heap.size := by omega
  clear hr1 ho1 hbl hzA hgA
  go_upto_region 3 with fail
  generalize wA.alloc (.cells #[.int .i64 0, .int .i64 0, .bool false, .string ⟨#[]⟩, .float .f64 0] 25) = wc at *
  generalize wA.heap.size = bm at *
  have hge := HR1.out.err
  obtain ⟨m_0, m_1, m_2, m_3, m_4⟩ := HM1.out.bx
  have mf_ := HM1.out.free
  go_wp2_with fail
  refine (Q2.out _ HR1.out).mono ?_
  rintro e wB ⟨rfl, hr2, ho2⟩
  clear m_0 m_1 m_2 m_3 m_4 mf_ hge
  have HO2 := Lib.hid (HO1.out.trans ho2)
  have HN2 := Lib.hid (HN1.out.only ho2 hne)
  have HM2 := Lib.hid (HM1.out.only ho2 hgM)
  have HR2 := Lib.hid hr2
  clear hr2 ho2
  go_wp2_with fail
  refine (HNV.out _).mono ?_
  rintro e wD ⟨rfl, hbD⟩
  have HO2 := Lib.hid (Only.below HO2.out hbD)
  have HN2 := Lib.hid (HN2.out.below hbD)
  have HM2 := Lib.hid (HM2.out.below hbD)
  have HR2 := Lib.hid (HR2.out.below hbD)
  clear hbD
  obtain ⟨p0, p1, p2, p3, p4⟩ := HM2.out.bx
  have pf := HM2.out.free
  go_upto_region 15 with fail
  have HM3 := Lib.hid (HM2.out.set5 (vNum m))
  have HN3 := Lib.hid (HN2.out.only (only_self5 bm wD (.int .i64 (vNum m).k) (.int .i64 (vNum m).i) (.bool (vNum m).b) (.string (vNum m).s) (.float .f64 (vNum m).n)) hNM)
  have HR3 := Lib.hid (HR2.out.off (only_self5 bm wD (.int .i64 (vNum m).k) (.int .i64 (vNum m).i) (.bool (vNum m).b) (.string (vNum m).s) (.float .f64 (vNum m).n)) hgL HM2.out)
  have HO3 := Lib.hid (Only.set5 HO2.out hwM (.int .i64 (vNum m).k) (.int .i64 (vNum m).i) (.bool (vNum m).b) (.string (vNum m).s) (.float .f64 (vNum m).n))
  simp only at HM3 HN3 HR3 HO3
  clear p0 p1 p2 p3 p4 pf
  generalize (((((wD.setCell ⟨bm, 0, none⟩ _).setCell ⟨bm, 1, none⟩ _).setCell ⟨bm, 2, none⟩ _).setCell ⟨bm, 3, none⟩ _).setCell ⟨bm, 4, none⟩ _) = wd at *
  have hge := HR3.out.err
  obtain ⟨c0, c1, c2, c3, c4⟩ := HN3.out.bx
  have cf := HN3.out.free
  obtain ⟨p0, p1, p2, p3, p4⟩ := HM3.out.bx
  have pf := HM3.out.free
  simp only at p0 p1 p2 p3 p4
  go_wp2
  exact bodyPost_ret (v := pairVE (vNum m) 0) (by simp [results, Tryz.results155, go_sem, c0, c1, c2, c3, c4]) rfl (GetR.mk (w := w) rfl HR3.out HO3.out HG.out HN3.out _ _ _ _ _)

set_option maxHeartbeats 4000000 in
theorem rGet_4no (g : Nat) (rest : List UInt8) (e : Int) (n : Nat) (r1 : List UInt8) (e1 : Int) (hst : stepF 8 alInt rest e = (n, r1, e1)) (w : World) (hr : RfS w g rest e) (he : e1 = 0) (hk : wrap64 (n : Int) = 4) (m : Nat) (r2 : List UInt8) (e2 : Int) (ht : stepF 8 alNum r1 e1 = (m, r2, e2)) (he2 : e2 ≠ 0) : Calls Tryz.prog 155 #[.pointer (some ⟨g, 0, none⟩)] w (GetR g vZero e2 r2 e2 w) := by
  have hgl := hr.lt
  have q1 : ∀ W, Below w.heap.size w W → Calls Tryz.prog 95 #[.pointer (some ⟨g, 0, none⟩)] W (DidR g (.int .i64 (wrap64 (n : Int))) r1 e1 W) := fun W hb => by
    have h := rfInt_any g rest e W (hr.below hb)
    rwa [hst] at h
  have d1 : (wrap64 (n : Int) == 1) = false := by rw [hk]; rfl
  have d2 : (wrap64 (n : Int) == 2) = false := by rw [hk]; rfl
  have d3 : (wrap64 (n : Int) == 3) = false := by rw [hk]; rfl
  have d4 : (wrap64 (n : Int) == 4) = true := by rw [hk]; rfl
  have d9 : (e2 != 0) = true := by simpa using he2
  have q2 : ∀ W, RfS W g r1 e1 → Calls Tryz.prog 162 #[.pointer (some ⟨g, 0, none⟩)] W (DidR g (.float .f64 m) r2 e2 W) := fun W h => by
    have h := rfNum_any g r1 e1 W h
    rwa [ht] at h
  have hms := num_same r1 e1
  rw [ht] at hms
  simp only at hms
  have hnv : ∀ W, Calls Tryz.prog 54 #[.float .f64 m] W (VMk (agV (vNum m)) W) := fun W => by
    have h := rNumV_any m W
    rwa [hms] at h
  have HNV := Lib.hid hnv
  clear hms hnv
  clear ht he2
  have Q2 := Lib.hid q2
  clear q2 hk
  subst he
  have HW0 := Lib.hid ((Below.refl w.heap.size w).alloc (Nat.le_refl _) (.cells #[.int .i64 0, .int .i64 0, .bool false, .string ⟨#[]⟩, .float .f64 0] 25))
  have hne : w.heap.size ≠ g := by omega
  have HB0 := Lib.hid (show Bh (w.alloc (.cells #[.int .i64 0, .int .i64 0, .bool false, .string ⟨#[]⟩, .float .f64 0] 25)) w.heap.size vZero from heap_alloc_new w _)
  have Q1 := Lib.hid q1
  have HG := Lib.hid hgl
  clear q1 hr hst hgl
  have hsf := fun (w : World) (a : Addr) (m : Mode) (b : Nat) => run_store Tryz.prog w a (.float .f64 b) m rfl
  go_enter Tryz.func155, Tryz.ntmps155
  go_wp2_with fail
  refine (Q1.out _ HW0.out).mono ?_
  rintro e wA ⟨rfl, hr1, ho1⟩
  have hzA : w.heap.size < wA.heap.size := by have := ho1.size; simp at this; omega
  have hgA : g < wA.heap.size := hr1.lt
  have hbl : Below wA.heap.size wA (wA.alloc (.cells #[.int .i64 0, .int .i64 0, .bool false, .string ⟨#[]⟩, .float .f64 0] 25)) := (Below.refl _ _).alloc (Nat.le_refl _) _
  have HO1 := Lib.hid ((Only.trans' (w := w) HW0.out ho1).below hbl)
  have HN1 := Lib.hid ((HB0.out.only ho1 hne).below hbl)
  have HM1 := Lib.hid (show Bh (wA.alloc (.cells #[.int .i64 0, .int .i64 0, .bool false, .string ⟨#[]⟩, .float .f64 0] 25)) wA.heap.size vZero from heap_alloc_new wA _)
  have HR1 := Lib.hid (hr1.below hbl)
  have hgM : wA.heap.size ≠ g := by omega
  have hgL : g < wA.heap.size := hgA
  have hwM : w.heap.size ≤ wA.heap.size := by omega
  have hNM : w.heap.size ≠ wA.heap.size := by omega
  clear hr1 ho1 hbl hzA hgA
  go_upto_region 3 with fail
  generalize wA.alloc (.cells #[.int .i64 0, .int .i64 0, .bool false, .string ⟨#[]⟩, .float .f64 0] 25) = wc at *
  generalize wA.heap.size = bm at *
  have hge := HR1.out.err
  obtain ⟨m_0, m_1, m_2, m_3, m_4⟩ := HM1.out.bx
  have mf_ := HM1.out.free
  go_wp2_with fail
  refine (Q2.out _ HR1.out).mono ?_
  rintro e wB ⟨rfl, hr2, ho2⟩
  clear m_0 m_1 m_2 m_3 m_4 mf_ hge
  have HO2 := Lib.hid (HO1.out.trans ho2)
  have HN2 := Lib.hid (HN1.out.only ho2 hne)
  have HM2 := Lib.hid (HM1.out.only ho2 hgM)
  have HR2 := Lib.hid hr2
  clear hr2 ho2
  go_wp2_with fail
  refine (HNV.out _).mono ?_
  rintro e wD ⟨rfl, hbD⟩
  have HO2 := Lib.hid (Only.below HO2.out hbD)
  have HN2 := Lib.hid (HN2.out.below hbD)
  have HM2 := Lib.hid (HM2.out.below hbD)
  have HR2 := Lib.hid (HR2.out.below hbD)
  clear hbD
  obtain ⟨p0, p1, p2, p3, p4⟩ := HM2.out.bx
  have pf := HM2.out.free
  go_upto_region 15 with fail
  have HM3 := Lib.hid (HM2.out.set5 (vNum m))
  have HN3 := Lib.hid (HN2.out.only (only_self5 bm wD (.int .i64 (vNum m).k) (.int .i64 (vNum m).i) (.bool (vNum m).b) (.string (vNum m).s) (.float .f64 (vNum m).n)) hNM)
  have HR3 := Lib.hid (HR2.out.off (only_self5 bm wD (.int .i64 (vNum m).k) (.int .i64 (vNum m).i) (.bool (vNum m).b) (.string (vNum m).s) (.float .f64 (vNum m).n)) hgL HM2.out)
  have HO3 := Lib.hid (Only.set5 HO2.out hwM (.int .i64 (vNum m).k) (.int .i64 (vNum m).i) (.bool (vNum m).b) (.string (vNum m).s) (.float .f64 (vNum m).n))
  simp only at HM3 HN3 HR3 HO3
  clear p0 p1 p2 p3 p4 pf
  generalize (((((wD.setCell ⟨bm, 0, none⟩ _).setCell ⟨bm, 1, none⟩ _).setCell ⟨bm, 2, none⟩ _).setCell ⟨bm, 3, none⟩ _).setCell ⟨bm, 4, none⟩ _) = wd at *
  have hge := HR3.out.err
  obtain ⟨c0, c1, c2, c3, c4⟩ := HN3.out.bx
  have cf := HN3.out.free
  obtain ⟨p0, p1, p2, p3, p4⟩ := HM3.out.bx
  have pf := HM3.out.free
  simp only at p0 p1 p2 p3 p4
  go_wp2
  go_region
  all_goals
    go_wp2
    exact bodyPost_ret (v := pairVE vZero e2) (by simp [results, Tryz.results155, go_sem, c0, c1, c2, c3, c4]) rfl (GetR.drew (GetR.mk (w := w) rfl HR3.out HO3.out HG.out HN3.out _ _ _ _ _))

end Go.Proofs.YtkhpgejammgolaaGreat

/- Layer 4: two readers beside one another; Get by the document, any. -/
namespace Go.Proofs.YtkhpgejammgolaaGreat
open Go.RowKit
set_option linter.unusedVariables false
set_option linter.unusedSimpArgs false
set_option maxRecDepth 20000

/-- bytes do not lie in a block without bytes -/
theorem Bs.not_in {w : World} {N : Nat} {v : Value} {l : List UInt8} {cs : Array Value} {t : TypeId} {fr : Nat × Nat} (h : Bs w v l) (hN : w.heap[N]? = some (.cells cs t fr)) (hy : ∀ (j : Nat) (b : UInt8), cs[j]? ≠ some (bc b)) (hl : l ≠ []) : ∀ k, v.ownBlock = some k → k ≠ N := by
  obtain ⟨A, c, hv, hc, hm, hn, hx⟩ := h
  have hl' : l.map bc ≠ [] := by simpa using hl
  obtain ⟨ad, ha, hb, hr⟩ := hx hl'
  intro k hk e
  have hown : v.ownBlock = some ad.block := by rw [hv, ha]; rfl
  rw [hown] at hk
  injection hk with hk
  obtain ⟨b, l', rfl⟩ := List.exists_cons_of_ne_nil hl
  have h0 := hr 0 (bc b) rfl
  rw [Addr.add_zero'] at h0
  simp only [World.cell?, hk, e, hN] at h0
  split at h0
  · cases h0
  · exact hy _ b h0
theorem Bs.offC {w w' : World} {N : Nat} {v : Value} {l : List UInt8} {cs : Array Value} {t : TypeId} {fr : Nat × Nat} (h : Bs w v l) (ho : Only N w w') (hN : w.heap[N]? = some (.cells cs t fr)) (hy : ∀ (j : Nat) (b : UInt8), cs[j]? ≠ some (bc b)) : Bs w' v l :=
  h.offN ho (fun hl => h.not_in hN hy hl)
theorem Ty.offC {w w' : World} {N : Nat} {v : Value} {l : List UInt8} (h : Ty w v l) (ho : Only N w w') (hN : l ≠ [] → ∀ k, v.ownBlock = some k → k ≠ N) : Ty w' v l := by
  intro hl k hk
  obtain ⟨cs, fr, hg⟩ := h hl k hk
  exact ⟨cs, fr, (ho.block k (Array.getElem?_eq_some_iff.1 hg).1 (by intro e; injection e with e; exact hN hl k hk e)).trans hg⟩
theorem RdR.cells {w : World} {g : Nat} {rest : List UInt8} {err : Int} (h : RdR w g rest err) : ∃ cs, w.heap[g]? = some (.cells cs 83 (0, 0)) ∧ ∀ (j : Nat) (b : UInt8), cs[j]? ≠ some (bc b) := by
  obtain ⟨rv, hh, hb⟩ := h
  obtain ⟨A, c, rfl, -⟩ := hb.1.open
  exact ⟨_, hh, no_bytes _ _ _ _⟩
theorem RfS.cells {w : World} {g : Nat} {rest : List UInt8} {e : Int} (h : RfS w g rest e) : ∃ cs, w.heap[g]? = some (.cells cs 35 (0, 0)) ∧ ∀ (j : Nat) (b : UInt8), cs[j]? ≠ some (bc b) := by
  obtain ⟨bs, i, ⟨bv, hh, hb, -⟩, -⟩ := h
  obtain ⟨A, c, rfl, -⟩ := hb.1.open
  exact ⟨_, hh, no_bytes3 _ _ _ _ _⟩
/-- the document's reader is as it was where the program's has gone on -/
theorem RfS.offP {w w' : World} {N g : Nat} {rest r2 : List UInt8} {e e2 : Int} (h : RfS w g rest e) (hp : RdR w N r2 e2) (ho : Only N w w') (hne : g ≠ N) : RfS w' g rest e := by
  obtain ⟨cs, hN, hy⟩ := hp.cells
  have hgl := h.lt
  obtain ⟨bs, i, ⟨bv, hh, hb, h1, h2⟩, h3⟩ := h
  refine ⟨bs, i, ⟨bv, (ho.block g hgl (by intro e; injection e with e; exact hne e)).trans hh, ⟨hb.1.offC ho hN hy, hb.2.imp (fun t => t.offC ho (fun hl => hb.1.not_in hN hy hl)) id⟩, h1, h2⟩, h3⟩
/-- .. and the other way round -/
theorem RdR.offR {w w' : World} {N g : Nat} {rest r2 : List UInt8} {e e2 : Int} (h : RdR w g rest e) (hp : RfS w N r2 e2) (ho : Only N w w') (hne : g ≠ N) : RdR w' g rest e := by
  obtain ⟨cs, hN, hy⟩ := hp.cells
  have hgl := h.lt
  obtain ⟨rv, hh, hb⟩ := h
  exact ⟨rv, (ho.block g hgl (by intro e; injection e with e; exact hne e)).trans hh, ⟨hb.1.offC ho hN hy, hb.2.offC ho (fun hl => hb.1.not_in hN hy hl)⟩⟩
theorem Bx.only {w w' : World} {b N : Nat} {v : Vl} (h : Bx w b v) (ho : Only N w w') (hne : b ≠ N) : Bx w' b v := by
  have hl : b < w.heap.size := World.block_lt_of_cell? w _ h.1
  have hh : ∀ j, w'.cell? ⟨b, j, none⟩ = w.cell? ⟨b, j, none⟩ := fun j => World.cell?_of_block (a := ⟨b, j, none⟩) (ho.block b hl (by intro e; injection e with e; exact hne e))
  exact ⟨(hh 0).trans h.1, (hh 1).trans h.2.1, (hh 2).trans h.2.2.1, (hh 3).trans h.2.2.2.1, (hh 4).trans h.2.2.2.2⟩

theorem stepF_no {size : Nat} {al : Int → Int} {rest r1 : List UInt8} {e e1 : Int} {n : Nat} (h : stepF size al rest e = (n, r1, e1)) (he : e1 ≠ 0) : n = 0 := by
  unfold stepF at h
  split at h
  · injection h with h; exact h.symm
  split at h
  · injection h with h; exact h.symm
  split at h
  · injection h with h; exact h.symm
  · injection h with h h2
    injection h2 with h2 h3
    exact absurd h3.symm he
theorem get_ok {rest r2 : List UInt8} {e : Int} {v : Vl} (h : readF rest e = (v, r2, 0)) (hk : v.k ≠ 0) : getV rest e = v ∧ getE rest e = 0 ∧ (readF rest e).2.1 = r2 ∧ (readF rest e).2.2 = 0 := by
  unfold getV getE
  rw [h]
  exact ⟨rfl, if_neg hk, rfl, rfl⟩
theorem get_no {rest r2 : List UInt8} {e e2 : Int} {v : Vl} (h : readF rest e = (v, r2, e2)) (he : e2 ≠ 0) : getV rest e = vZero ∧ getE rest e = e2 ∧ (readF rest e).2.1 = r2 ∧ (readF rest e).2.2 = e2 := by
  unfold getV getE
  rw [h]
  exact ⟨if_neg he, if_neg he, rfl, rfl⟩
theorem get_none {rest r2 : List UInt8} {e : Int} (h : readF rest e = (vZero, r2, 0)) : getV rest e = vZero ∧ getE rest e = 12 ∧ (readF rest e).2.1 = r2 ∧ (readF rest e).2.2 = 0 := by
  unfold getV getE
  rw [h]
  exact ⟨rfl, rfl, rfl, rfl⟩
theorem readF_1 {rest r1 r2 : List UInt8} {e e1 e2 : Int} {n m : Nat} (hst : stepF 8 alInt rest e = (n, r1, e1)) (hk : wrap64 (n : Int) = 1) (ht : stepF 8 alInt r1 e1 = (m, r2, e2)) : readF rest e = (vInt (wrap64 (m : Int)), r2, e2) := by
  unfold readF
  rw [hst]
  simp only
  rw [if_pos hk, ht]
theorem readF_2 {rest r1 r2 : List UInt8} {e e1 e2 : Int} {n m : Nat} (hst : stepF 8 alInt rest e = (n, r1, e1)) (hk : wrap64 (n : Int) = 2) (ht : stepF 1 alBool r1 e1 = (m, r2, e2)) : readF rest e = (vTruth (decide (m = 1)), r2, e2) := by
  unfold readF
  rw [hst]
  simp only
  rw [if_neg (by omega), if_pos hk, ht]
theorem readF_3 {rest r1 r2 : List UInt8} {e e1 e2 : Int} {n : Nat} {m : List UInt8} (hst : stepF 8 alInt rest e = (n, r1, e1)) (hk : wrap64 (n : Int) = 3) (ht : bytesF 32 r1 e1 = (m, r2, e2)) : readF rest e = (⟨3, 0, false, strB m, 0⟩, r2, e2) := by
  unfold readF
  rw [hst]
  simp only
  rw [if_neg (by omega), if_neg (by omega), if_pos hk, ht]
theorem readF_4 {rest r1 r2 : List UInt8} {e e1 e2 : Int} {n m : Nat} (hst : stepF 8 alInt rest e = (n, r1, e1)) (hk : wrap64 (n : Int) = 4) (ht : stepF 8 alNum r1 e1 = (m, r2, e2)) : readF rest e = (vNum m, r2, e2) := by
  unfold readF
  rw [hst]
  simp only
  rw [if_neg (by omega), if_neg (by omega), if_neg (by omega), if_pos hk, ht]
theorem readF_0 {rest r1 : List UInt8} {e e1 : Int} {n : Nat} (hst : stepF 8 alInt rest e = (n, r1, e1)) (h1 : wrap64 (n : Int) ≠ 1) (h2 : wrap64 (n : Int) ≠ 2) (h3 : wrap64 (n : Int) ≠ 3) (h4 : wrap64 (n : Int) ≠ 4) : readF rest e = (vZero, r1, e1) := by
  unfold readF
  rw [hst]
  simp only
  rw [if_neg h1, if_neg h2, if_neg h3, if_neg h4]

theorem GetR.cast {g : Nat} {v v' : Vl} {er er' : Int} {rest rest' : List UInt8} {err err' : Int} {w : World} {c : Prop} {e : Ending} {w' : World} (h : GetR g v er rest err w e w') (hh : v' = v ∧ er' = er ∧ rest' = rest ∧ err' = err) : GetR g v' er' rest' err' w e w' := by
  obtain ⟨rfl, rfl, rfl, rfl⟩ := hh
  exact h
theorem rGet_any (g : Nat) (rest : List UInt8) (e : Int) (w : World) (hr : RfS w g rest e) : Calls Tryz.prog 155 #[.pointer (some ⟨g, 0, none⟩)] w (GetR g (getV rest e) (getE rest e) (readF rest e).2.1 (readF rest e).2.2 w) := by
  rcases hst : stepF 8 alInt rest e with ⟨n, r1, e1⟩
  by_cases he : e1 = 0
  · by_cases h1 : wrap64 (n : Int) = 1
    · rcases ht : stepF 8 alInt r1 e1 with ⟨m, r2, e2⟩
      by_cases h5 : e2 = 0
      · exact (rGet_1ok g rest e n r1 e1 hst w hr he h1 m r2 e2 ht h5).mono fun e' w' h => GetR.cast (c := True) h (by have := get_ok (h5 ▸ readF_1 hst h1 ht) (by intro h; cases h); rwa [h5])
      · exact (rGet_1no g rest e n r1 e1 hst w hr he h1 m r2 e2 ht h5).mono fun e' w' h => GetR.cast (c := True) h (get_no (readF_1 hst h1 ht) h5)
    by_cases h2 : wrap64 (n : Int) = 2
    · rcases ht : stepF 1 alBool r1 e1 with ⟨m, r2, e2⟩
      by_cases h5 : e2 = 0
      · exact (rGet_2ok g rest e n r1 e1 hst w hr he h2 m r2 e2 ht h5).mono fun e' w' h => GetR.cast (c := True) h (by have := get_ok (h5 ▸ readF_2 hst h2 ht) (by intro h; cases h); rwa [h5])
      · exact (rGet_2no g rest e n r1 e1 hst w hr he h2 m r2 e2 ht h5).mono fun e' w' h => GetR.cast (c := True) h (get_no (readF_2 hst h2 ht) h5)
    by_cases h3 : wrap64 (n : Int) = 3
    · rcases ht : bytesF 32 r1 e1 with ⟨m, r2, e2⟩
      by_cases h5 : e2 = 0
      · exact (rGet_3ok g rest e n r1 e1 hst w hr he h3 m r2 e2 ht h5).mono fun e' w' h => GetR.cast (c := True) h (by have := get_ok (h5 ▸ readF_3 hst h3 ht) (by intro h; cases h); rwa [h5])
      · exact (rGet_3no g rest e n r1 e1 hst w hr he h3 m r2 e2 ht h5).mono fun e' w' h => GetR.cast (c := True) h (get_no (readF_3 hst h3 ht) h5)
    by_cases h4 : wrap64 (n : Int) = 4
    · rcases ht : stepF 8 alNum r1 e1 with ⟨m, r2, e2⟩
      by_cases h5 : e2 = 0
      · exact (rGet_4ok g rest e n r1 e1 hst w hr he h4 m r2 e2 ht h5).mono fun e' w' h => GetR.cast (c := True) h (by have := get_ok (h5 ▸ readF_4 hst h4 ht) (by intro h; cases h); rwa [h5])
      · exact (rGet_4no g rest e n r1 e1 hst w hr he h4 m r2 e2 ht h5).mono fun e' w' h => GetR.cast (c := True) h (get_no (readF_4 hst h4 ht) h5)
    · exact (rGet_none g rest e n r1 e1 hst w hr he h1 h2 h3 h4).mono fun e' w' h => GetR.cast (c := True) h (by have := get_none (he ▸ readF_0 hst h1 h2 h3 h4); rwa [he])
  · have hn := stepF_no hst he
    subst hn
    exact (rGet_err g rest e 0 r1 e1 hst w hr he).mono fun e' w' h => GetR.cast (c := True) h (get_no (readF_0 hst (by unfold wrap64; omega) (by unfold wrap64; omega) (by unfold wrap64; omega) (by unfold wrap64; omega)) he)
end Go.Proofs.YtkhpgejammgolaaGreat

/- Layer 4: values as bytes, by the program and by the document. (Made by gen/genvput.py.) -/
namespace Go.Proofs.YtkhpgejammgolaaGreat
open Go.RowKit
set_option linter.unusedVariables false
set_option linter.unusedSimpArgs false
set_option maxRecDepth 20000

/-- 4.5: a value's bytes -/
def valB (v : Vl) : List UInt8 := be 8 (w64 v.k) ++ (if v.k = 1 then be 8 (w64 v.i) else if v.k = 2 then be 1 v.b.toNat else if v.k = 3 then be 4 v.s.data.toList.length ++ v.s.data.toList else if v.k = 4 then be 8 (numW v.n) else [])
/-- new memory, a row of one's own, that reads as bytes -/
def PutsV (w : World) (l : List UInt8) (e : Ending) (w' : World) : Prop := ∃ v' B, e = .returned v' ∧ w.heap.size ≤ B ∧ w'.ownsRow B 5 1 v' l.length (l.map bc) ∧ Below w.heap.size w w'
theorem PutsV.bs {w w' : World} {l : List UInt8} {e : Ending} (h : PutsV w l e w') : ∃ v', e = .returned v' ∧ Bs w' v' l ∧ Below w.heap.size w w' := by
  obtain ⟨v', B, rfl, -, h, hb⟩ := h
  exact ⟨v', rfl, Rd.of_own h, hb⟩
theorem PutsV.mk {w wa wb w' : World} {l m : List UInt8} {e : Ending} (h : Puts wb m e w') (hw : Below w.heap.size w wa) (hab : Below wa.heap.size wa wb) (hl : m = l) : PutsV w l e w' := by
  subst hl
  obtain ⟨v', rfl, h, hb⟩ := h
  have h1 := hw.trans (hab.mono hw.size)
  exact ⟨v', wb.heap.size, rfl, h1.size, h, h1.trans (hb.mono h1.size)⟩
set_option maxHeartbeats 2000000 in
theorem Put_1 (v : Vl) (y : Value) (l : List UInt8) (w : World) (hk : v.k = 1) (hy : Bs w y l) (hl : l.length ≤ 100000) (hs : v.s.data.toList.length ≤ 100000) (hn : v.n < 18446744073709551616) : Calls Tryz.prog 101 #[y, agV v] w (PutsV w (l ++ valB v)) := by
  have hk1 : (v.k == 1) = true := by rw [hk]; rfl
  have hk2 : (v.k == 2) = false := by rw [hk]; rfl
  have hk3 : (v.k == 3) = false := by rw [hk]; rfl
  have hk4 : (v.k == 4) = false := by rw [hk]; rfl
  have hb : valB v = be 8 (w64 v.k) ++ (be 8 (w64 v.i)) := by unfold valB; rw [if_pos hk]
  rw [hb]; clear hb hk
  have q1 : ∀ W, Below w.heap.size w W → Calls Tryz.prog 100 #[y, .int .i64 v.k] W (Puts W (l ++ be 8 (w64 v.k))) := fun W hb => PutInt_any y l v.k W (Rd.below hy hb (Nat.le_refl _)) (by omega)
  have hlen : (l ++ be 8 (w64 v.k)).length ≤ 100008 := by rw [List.length_append, be_length]; omega
  have q2 : ∀ W z, Bs W z (l ++ be 8 (w64 v.k)) → Calls Tryz.prog 100 #[z, .int .i64 v.i] W (Puts W (l ++ be 8 (w64 v.k) ++ be 8 (w64 v.i))) := fun W z hz => PutInt_any z _ v.i W hz (by omega)
  have HW := Lib.hid ((Below.refl w.heap.size w).alloc (Nat.le_refl _) (.cells #[.int .i64 v.k, .int .i64 v.i, .bool v.b, .string v.s, .float .f64 v.n] 25))
  have Q1 := Lib.hid q1
  have Q2 := Lib.hid q2
  clear q1 hy hl hs hn hlen q2
  have tok1 : True := trivial
  go_enter Tryz.func101, Tryz.ntmps101
  go_wp2_with (first
    | (go_at_call 100; have _t := tok1; ((with_reducible refine (Q1.out _ (Below.refl _ _ |>.alloc (Nat.le_refl _) _)).mono ?_); intro e w1 hp1; obtain ⟨v1, rfl, hown1, hb1⟩ := hp1; obtain ⟨hc1, hf1⟩ := bcell hb1; have HO1 := Lib.hid hown1; clear hown1; clear tok1 _t))
    | (go_at_call 100; refine (Q2.out _ _ (Rd.of_own HO1.out)).mono ?_; intro e w2 hp2; have HP2 := Lib.hid hp2; clear hp2; obtain ⟨v2, rfl, -, -⟩ := HP2.out))
  go_ret
  exact PutsV.mk HP2.out (HW.out.trans (hb1.mono HW.out.size)) (Below.refl _ _) (by simp)

set_option maxHeartbeats 2000000 in
theorem Put_2 (v : Vl) (y : Value) (l : List UInt8) (w : World) (hk : v.k = 2) (hy : Bs w y l) (hl : l.length ≤ 100000) (hs : v.s.data.toList.length ≤ 100000) (hn : v.n < 18446744073709551616) : Calls Tryz.prog 101 #[y, agV v] w (PutsV w (l ++ valB v)) := by
  have hk1 : (v.k == 1) = false := by rw [hk]; rfl
  have hk2 : (v.k == 2) = true := by rw [hk]; rfl
  have hk3 : (v.k == 3) = false := by rw [hk]; rfl
  have hk4 : (v.k == 4) = false := by rw [hk]; rfl
  have hb : valB v = be 8 (w64 v.k) ++ (be 1 v.b.toNat) := by unfold valB; rw [if_neg (by omega), if_pos hk]
  rw [hb]; clear hb hk
  have q1 : ∀ W, Below w.heap.size w W → Calls Tryz.prog 100 #[y, .int .i64 v.k] W (Puts W (l ++ be 8 (w64 v.k))) := fun W hb => PutInt_any y l v.k W (Rd.below hy hb (Nat.le_refl _)) (by omega)
  have hlen : (l ++ be 8 (w64 v.k)).length ≤ 100008 := by rw [List.length_append, be_length]; omega
  have q2 : ∀ W z, Bs W z (l ++ be 8 (w64 v.k)) → Calls Tryz.prog 159 #[z, .bool v.b] W (Puts W (l ++ be 8 (w64 v.k) ++ be 1 v.b.toNat)) := fun W z hz => PutBool_any z _ v.b W hz (by omega)
  have HW := Lib.hid ((Below.refl w.heap.size w).alloc (Nat.le_refl _) (.cells #[.int .i64 v.k, .int .i64 v.i, .bool v.b, .string v.s, .float .f64 v.n] 25))
  have Q1 := Lib.hid q1
  have Q2 := Lib.hid q2
  clear q1 hy hl hs hn hlen q2
  have tok1 : True := trivial
  go_enter Tryz.func101, Tryz.ntmps101
  go_wp2_with (first
    | (go_at_call 100; have _t := tok1; ((with_reducible refine (Q1.out _ (Below.refl _ _ |>.alloc (Nat.le_refl _) _)).mono ?_); intro e w1 hp1; obtain ⟨v1, rfl, hown1, hb1⟩ := hp1; obtain ⟨hc1, hf1⟩ := bcell hb1; have HO1 := Lib.hid hown1; clear hown1; clear tok1 _t))
    | (go_at_call 159; refine (Q2.out _ _ (Rd.of_own HO1.out)).mono ?_; intro e w2 hp2; have HP2 := Lib.hid hp2; clear hp2; obtain ⟨v2, rfl, -, -⟩ := HP2.out))
  go_ret
  exact PutsV.mk HP2.out (HW.out.trans (hb1.mono HW.out.size)) (Below.refl _ _) (by simp)

set_option maxHeartbeats 2000000 in
theorem Put_3 (v : Vl) (y : Value) (l : List UInt8) (w : World) (hk : v.k = 3) (hy : Bs w y l) (hl : l.length ≤ 100000) (hs : v.s.data.toList.length ≤ 100000) (hn : v.n < 18446744073709551616) : Calls Tryz.prog 101 #[y, agV v] w (PutsV w (l ++ valB v)) := by
  have hk1 : (v.k == 1) = false := by rw [hk]; rfl
  have hk2 : (v.k == 2) = false := by rw [hk]; rfl
  have hk3 : (v.k == 3) = true := by rw [hk]; rfl
  have hk4 : (v.k == 4) = false := by rw [hk]; rfl
  have hb : valB v = be 8 (w64 v.k) ++ (be 4 v.s.data.toList.length ++ v.s.data.toList) := by unfold valB; rw [if_neg (by omega), if_neg (by omega), if_pos hk]
  rw [hb]; clear hb hk
  have q1 : ∀ W, Below w.heap.size w W → Calls Tryz.prog 100 #[y, .int .i64 v.k] W (Puts W (l ++ be 8 (w64 v.k))) := fun W hb => PutInt_any y l v.k W (Rd.below hy hb (Nat.le_refl _)) (by omega)
  have hlen : (l ++ be 8 (w64 v.k)).length ≤ 100008 := by rw [List.length_append, be_length]; omega
  have hcv := fun (W : World) => Lib.run_convert_string_bytes (P := Tryz.prog) W 9 28 5 v.s Tryz.underlying9 Tryz.underlying28 Tryz.underlying5
  have hbw : ∀ W, Bs (Lib.bytesWorld W 5 v.s) (.slice (some ⟨W.heap.size, 0, none⟩) v.s.size (grownCap W v.s.size 0 5)) v.s.data.toList := fun W => by
    have h := bytesWorld_bs W v.s.data.toList (by unfold maxLen; omega) _ rfl
    rwa [← strB_of v.s] at h
  have q2 : ∀ W z u, Bs W z (l ++ be 8 (w64 v.k)) → Bs W u v.s.data.toList → Calls Tryz.prog 102 #[z, u] W (Puts W (l ++ be 8 (w64 v.k) ++ be 4 v.s.data.toList.length ++ v.s.data.toList)) := fun W z u hz hu => PutBytes_any z u _ _ W hz hu (by omega) (by omega)
  have HBW := Lib.hid hbw
  have HW := Lib.hid ((Below.refl w.heap.size w).alloc (Nat.le_refl _) (.cells #[.int .i64 v.k, .int .i64 v.i, .bool v.b, .string v.s, .float .f64 v.n] 25))
  have Q1 := Lib.hid q1
  have Q2 := Lib.hid q2
  clear q1 hy hl hs hn hlen q2 hbw
  have tok1 : True := trivial
  go_enter Tryz.func101, Tryz.ntmps101
  go_wp2_with (first
    | (go_at_call 100; have _t := tok1; ((with_reducible refine (Q1.out _ (Below.refl _ _ |>.alloc (Nat.le_refl _) _)).mono ?_); intro e w1 hp1; obtain ⟨v1, rfl, hown1, hb1⟩ := hp1; obtain ⟨hc1, hf1⟩ := bcell hb1; have HO1 := Lib.hid hown1; clear hown1; clear tok1 _t))
    | (go_at_call 102; refine (Q2.out _ _ _ (Rd.below (Rd.of_own HO1.out) (bytesWorld_below _ _ _) (Nat.le_refl _)) (HBW.out w1)).mono ?_; intro e w2 hp2; have HP2 := Lib.hid hp2; clear hp2; obtain ⟨v2, rfl, -, -⟩ := HP2.out))
  go_ret
  exact PutsV.mk HP2.out (HW.out.trans (hb1.mono HW.out.size)) (bytesWorld_below _ _ _) (by simp)

set_option maxHeartbeats 2000000 in
theorem Put_4 (v : Vl) (y : Value) (l : List UInt8) (w : World) (hk : v.k = 4) (hy : Bs w y l) (hl : l.length ≤ 100000) (hs : v.s.data.toList.length ≤ 100000) (hn : v.n < 18446744073709551616) : Calls Tryz.prog 101 #[y, agV v] w (PutsV w (l ++ valB v)) := by
  have hk1 : (v.k == 1) = false := by rw [hk]; rfl
  have hk2 : (v.k == 2) = false := by rw [hk]; rfl
  have hk3 : (v.k == 3) = false := by rw [hk]; rfl
  have hk4 : (v.k == 4) = true := by rw [hk]; rfl
  have hb : valB v = be 8 (w64 v.k) ++ (be 8 (numW v.n)) := by unfold valB; rw [if_neg (by omega), if_neg (by omega), if_neg (by omega), if_pos hk]
  rw [hb]; clear hb hk
  have q1 : ∀ W, Below w.heap.size w W → Calls Tryz.prog 100 #[y, .int .i64 v.k] W (Puts W (l ++ be 8 (w64 v.k))) := fun W hb => PutInt_any y l v.k W (Rd.below hy hb (Nat.le_refl _)) (by omega)
  have hlen : (l ++ be 8 (w64 v.k)).length ≤ 100008 := by rw [List.length_append, be_length]; omega
  have q2 : ∀ W z, Bs W z (l ++ be 8 (w64 v.k)) → Calls Tryz.prog 160 #[z, .float .f64 v.n] W (Puts W (l ++ be 8 (w64 v.k) ++ be 8 (numW v.n))) := fun W z hz => PutNum_any z _ v.n W hz (by omega) hn
  have HW := Lib.hid ((Below.refl w.heap.size w).alloc (Nat.le_refl _) (.cells #[.int .i64 v.k, .int .i64 v.i, .bool v.b, .string v.s, .float .f64 v.n] 25))
  have Q1 := Lib.hid q1
  have Q2 := Lib.hid q2
  clear q1 hy hl hs hn hlen q2
  have tok1 : True := trivial
  go_enter Tryz.func101, Tryz.ntmps101
  go_wp2_with (first
    | (go_at_call 100; have _t := tok1; ((with_reducible refine (Q1.out _ (Below.refl _ _ |>.alloc (Nat.le_refl _) _)).mono ?_); intro e w1 hp1; obtain ⟨v1, rfl, hown1, hb1⟩ := hp1; obtain ⟨hc1, hf1⟩ := bcell hb1; have HO1 := Lib.hid hown1; clear hown1; clear tok1 _t))
    | (go_at_call 160; refine (Q2.out _ _ (Rd.of_own HO1.out)).mono ?_; intro e w2 hp2; have HP2 := Lib.hid hp2; clear hp2; obtain ⟨v2, rfl, -, -⟩ := HP2.out))
  go_ret
  exact PutsV.mk HP2.out (HW.out.trans (hb1.mono HW.out.size)) (Below.refl _ _) (by simp)

set_option maxHeartbeats 2000000 in
theorem Put_0 (v : Vl) (y : Value) (l : List UInt8) (w : World) (h1 : v.k ≠ 1) (h2 : v.k ≠ 2) (h3 : v.k ≠ 3) (h4 : v.k ≠ 4) (hy : Bs w y l) (hl : l.length ≤ 100000) (hs : v.s.data.toList.length ≤ 100000) (hn : v.n < 18446744073709551616) : Calls Tryz.prog 101 #[y, agV v] w (PutsV w (l ++ valB v)) := by
  have hk1 : (v.k == 1) = false := by simpa using h1
  have hk2 : (v.k == 2) = false := by simpa using h2
  have hk3 : (v.k == 3) = false := by simpa using h3
  have hk4 : (v.k == 4) = false := by simpa using h4
  have hb : valB v = be 8 (w64 v.k) ++ ([]) := by unfold valB; rw [if_neg h1, if_neg h2, if_neg h3, if_neg h4]
  rw [hb]; clear hb h1 h2 h3 h4
  have q1 : ∀ W, Below w.heap.size w W → Calls Tryz.prog 100 #[y, .int .i64 v.k] W (Puts W (l ++ be 8 (w64 v.k))) := fun W hb => PutInt_any y l v.k W (Rd.below hy hb (Nat.le_refl _)) (by omega)
  have hlen : (l ++ be 8 (w64 v.k)).length ≤ 100008 := by rw [List.length_append, be_length]; omega
  have HW := Lib.hid ((Below.refl w.heap.size w).alloc (Nat.le_refl _) (.cells #[.int .i64 v.k, .int .i64 v.i, .bool v.b, .string v.s, .float .f64 v.n] 25))
  have Q1 := Lib.hid q1
  clear q1 hy hl hs hn hlen
  have tok1 : True := trivial
  go_enter Tryz.func101, Tryz.ntmps101
  go_wp2_with (first
    | (go_at_call 100; have _t := tok1; ((with_reducible refine (Q1.out _ (Below.refl _ _ |>.alloc (Nat.le_refl _) _)).mono ?_); intro e w1 hp1; obtain ⟨v1, rfl, hown1, hb1⟩ := hp1; obtain ⟨hc1, hf1⟩ := bcell hb1; have HO1 := Lib.hid hown1; clear hown1; clear tok1 _t)))
  go_ret
  exact PutsV.mk ⟨_, rfl, HO1.out, hb1⟩ HW.out (Below.refl _ _) (by simp)

theorem Put_val (v : Vl) (y : Value) (l : List UInt8) (w : World) (hy : Bs w y l) (hl : l.length ≤ 100000) (hs : v.s.data.toList.length ≤ 100000) (hn : v.n < 18446744073709551616) : Calls Tryz.prog 101 #[y, agV v] w (PutsV w (l ++ valB v)) := by
  by_cases h1 : v.k = 1
  · exact Put_1 v y l w h1 hy hl hs hn
  by_cases h2 : v.k = 2
  · exact Put_2 v y l w h2 hy hl hs hn
  by_cases h3 : v.k = 3
  · exact Put_3 v y l w h3 hy hl hs hn
  by_cases h4 : v.k = 4
  · exact Put_4 v y l w h4 hy hl hs hn
  exact Put_0 v y l w h1 h2 h3 h4 hy hl hs hn

set_option maxHeartbeats 2000000 in
theorem rPut_1 (v : Vl) (y : Value) (l : List UInt8) (w : World) (hk : v.k = 1) (hy : Bs w y l) (hl : l.length ≤ 100000) (hs : v.s.data.toList.length ≤ 100000) (hn : v.n < 18446744073709551616) : Calls Tryz.prog 83 #[y, agV v] w (PutsV w (l ++ valB v)) := by
  have hk1 : (v.k == 1) = true := by rw [hk]; rfl
  have hk2 : (v.k == 2) = false := by rw [hk]; rfl
  have hk3 : (v.k == 3) = false := by rw [hk]; rfl
  have hk4 : (v.k == 4) = false := by rw [hk]; rfl
  have hb : valB v = be 8 (w64 v.k) ++ (be 8 (w64 v.i)) := by unfold valB; rw [if_pos hk]
  rw [hb]; clear hb hk
  have q1 : ∀ W, Below w.heap.size w W → Calls Tryz.prog 82 #[y, .int .i64 v.k] W (Puts W (l ++ be 8 (w64 v.k))) := fun W hb => rInt_any y l v.k W (Rd.below hy hb (Nat.le_refl _)) (by omega)
  have hlen : (l ++ be 8 (w64 v.k)).length ≤ 100008 := by rw [List.length_append, be_length]; omega
  have q2 : ∀ W z, Bs W z (l ++ be 8 (w64 v.k)) → Calls Tryz.prog 82 #[z, .int .i64 v.i] W (Puts W (l ++ be 8 (w64 v.k) ++ be 8 (w64 v.i))) := fun W z hz => rInt_any z _ v.i W hz (by omega)
  have HW := Lib.hid ((Below.refl w.heap.size w).alloc (Nat.le_refl _) (.cells #[.int .i64 v.k, .int .i64 v.i, .bool v.b, .string v.s, .float .f64 v.n] 25))
  have Q1 := Lib.hid q1
  have Q2 := Lib.hid q2
  clear q1 hy hl hs hn hlen q2
  have tok1 : True := trivial
  go_enter Tryz.func83, Tryz.ntmps83
  go_wp2_with (first
    | (go_at_call 82; have _t := tok1; ((with_reducible refine (Q1.out _ (Below.refl _ _ |>.alloc (Nat.le_refl _) _)).mono ?_); intro e w1 hp1; obtain ⟨v1, rfl, hown1, hb1⟩ := hp1; obtain ⟨hc1, hf1⟩ := bcell hb1; have HO1 := Lib.hid hown1; clear hown1; clear tok1 _t))
    | (go_at_call 82; refine (Q2.out _ _ (Rd.of_own HO1.out)).mono ?_; intro e w2 hp2; have HP2 := Lib.hid hp2; clear hp2; obtain ⟨v2, rfl, -, -⟩ := HP2.out))
  go_ret
  exact PutsV.mk HP2.out (HW.out.trans (hb1.mono HW.out.size)) (Below.refl _ _) (by simp)

set_option maxHeartbeats 2000000 in
theorem rPut_2 (v : Vl) (y : Value) (l : List UInt8) (w : World) (hk : v.k = 2) (hy : Bs w y l) (hl : l.length ≤ 100000) (hs : v.s.data.toList.length ≤ 100000) (hn : v.n < 18446744073709551616) : Calls Tryz.prog 83 #[y, agV v] w (PutsV w (l ++ valB v)) := by
  have hk1 : (v.k == 1) = false := by rw [hk]; rfl
  have hk2 : (v.k == 2) = true := by rw [hk]; rfl
  have hk3 : (v.k == 3) = false := by rw [hk]; rfl
  have hk4 : (v.k == 4) = false := by rw [hk]; rfl
  have hb : valB v = be 8 (w64 v.k) ++ (be 1 v.b.toNat) := by unfold valB; rw [if_neg (by omega), if_pos hk]
  rw [hb]; clear hb hk
  have q1 : ∀ W, Below w.heap.size w W → Calls Tryz.prog 82 #[y, .int .i64 v.k] W (Puts W (l ++ be 8 (w64 v.k))) := fun W hb => rInt_any y l v.k W (Rd.below hy hb (Nat.le_refl _)) (by omega)
  have hlen : (l ++ be 8 (w64 v.k)).length ≤ 100008 := by rw [List.length_append, be_length]; omega
  have q2 : ∀ W z, Bs W z (l ++ be 8 (w64 v.k)) → Calls Tryz.prog 134 #[z, .bool v.b] W (Puts W (l ++ be 8 (w64 v.k) ++ be 1 v.b.toNat)) := fun W z hz => rBool_any z _ v.b W hz (by omega)
  have HW := Lib.hid ((Below.refl w.heap.size w).alloc (Nat.le_refl _) (.cells #[.int .i64 v.k, .int .i64 v.i, .bool v.b, .string v.s, .float .f64 v.n] 25))
  have Q1 := Lib.hid q1
  have Q2 := Lib.hid q2
  clear q1 hy hl hs hn hlen q2
  have tok1 : True := trivial
  go_enter Tryz.func83, Tryz.ntmps83
  go_wp2_with (first
    | (go_at_call 82; have _t := tok1; ((with_reducible refine (Q1.out _ (Below.refl _ _ |>.alloc (Nat.le_refl _) _)).mono ?_); intro e w1 hp1; obtain ⟨v1, rfl, hown1, hb1⟩ := hp1; obtain ⟨hc1, hf1⟩ := bcell hb1; have HO1 := Lib.hid hown1; clear hown1; clear tok1 _t))
    | (go_at_call 134; refine (Q2.out _ _ (Rd.of_own HO1.out)).mono ?_; intro e w2 hp2; have HP2 := Lib.hid hp2; clear hp2; obtain ⟨v2, rfl, -, -⟩ := HP2.out))
  go_ret
  exact PutsV.mk HP2.out (HW.out.trans (hb1.mono HW.out.size)) (Below.refl _ _) (by simp)

set_option maxHeartbeats 2000000 in
theorem rPut_3 (v : Vl) (y : Value) (l : List UInt8) (w : World) (hk : v.k = 3) (hy : Bs w y l) (hl : l.length ≤ 100000) (hs : v.s.data.toList.length ≤ 100000) (hn : v.n < 18446744073709551616) : Calls Tryz.prog 83 #[y, agV v] w (PutsV w (l ++ valB v)) := by
  have hk1 : (v.k == 1) = false := by rw [hk]; rfl
  have hk2 : (v.k == 2) = false := by rw [hk]; rfl
  have hk3 : (v.k == 3) = true := by rw [hk]; rfl
  have hk4 : (v.k == 4) = false := by rw [hk]; rfl
  have hb : valB v = be 8 (w64 v.k) ++ (be 4 v.s.data.toList.length ++ v.s.data.toList) := by unfold valB; rw [if_neg (by omega), if_neg (by omega), if_pos hk]
  rw [hb]; clear hb hk
  have q1 : ∀ W, Below w.heap.size w W → Calls Tryz.prog 82 #[y, .int .i64 v.k] W (Puts W (l ++ be 8 (w64 v.k))) := fun W hb => rInt_any y l v.k W (Rd.below hy hb (Nat.le_refl _)) (by omega)
  have hlen : (l ++ be 8 (w64 v.k)).length ≤ 100008 := by rw [List.length_append, be_length]; omega
  have hcv := fun (W : World) => Lib.run_convert_string_bytes (P := Tryz.prog) W 9 28 5 v.s Tryz.underlying9 Tryz.underlying28 Tryz.underlying5
  have hbw : ∀ W, Bs (Lib.bytesWorld W 5 v.s) (.slice (some ⟨W.heap.size, 0, none⟩) v.s.size (grownCap W v.s.size 0 5)) v.s.data.toList := fun W => by
    have h := bytesWorld_bs W v.s.data.toList (by unfold maxLen; omega) _ rfl
    rwa [← strB_of v.s] at h
  have q2 : ∀ W z u, Bs W z (l ++ be 8 (w64 v.k)) → Bs W u v.s.data.toList → Calls Tryz.prog 103 #[z, u] W (Puts W (l ++ be 8 (w64 v.k) ++ be 4 v.s.data.toList.length ++ v.s.data.toList)) := fun W z u hz hu => rBytes_any z u _ _ W hz hu (by omega) (by omega)
  have HBW := Lib.hid hbw
  have HW := Lib.hid ((Below.refl w.heap.size w).alloc (Nat.le_refl _) (.cells #[.int .i64 v.k, .int .i64 v.i, .bool v.b, .string v.s, .float .f64 v.n] 25))
  have Q1 := Lib.hid q1
  have Q2 := Lib.hid q2
  clear q1 hy hl hs hn hlen q2 hbw
  have tok1 : True := trivial
  go_enter Tryz.func83, Tryz.ntmps83
  go_wp2_with (first
    | (go_at_call 82; have _t := tok1; ((with_reducible refine (Q1.out _ (Below.refl _ _ |>.alloc (Nat.le_refl _) _)).mono ?_); intro e w1 hp1; obtain ⟨v1, rfl, hown1, hb1⟩ := hp1; obtain ⟨hc1, hf1⟩ := bcell hb1; have HO1 := Lib.hid hown1; clear hown1; clear tok1 _t))
    | (go_at_call 103; refine (Q2.out _ _ _ (Rd.below (Rd.of_own HO1.out) (bytesWorld_below _ _ _) (Nat.le_refl _)) (HBW.out w1)).mono ?_; intro e w2 hp2; have HP2 := Lib.hid hp2; clear hp2; obtain ⟨v2, rfl, -, -⟩ := HP2.out))
  go_ret
  exact PutsV.mk HP2.out (HW.out.trans (hb1.mono HW.out.size)) (bytesWorld_below _ _ _) (by simp)

set_option maxHeartbeats 2000000 in
theorem rPut_4 (v : Vl) (y : Value) (l : List UInt8) (w : World) (hk : v.k = 4) (hy : Bs w y l) (hl : l.length ≤ 100000) (hs : v.s.data.toList.length ≤ 100000) (hn : v.n < 18446744073709551616) : Calls Tryz.prog 83 #[y, agV v] w (PutsV w (l ++ valB v)) := by
  have hk1 : (v.k == 1) = false := by rw [hk]; rfl
  have hk2 : (v.k == 2) = false := by rw [hk]; rfl
  have hk3 : (v.k == 3) = false := by rw [hk]; rfl
  have hk4 : (v.k == 4) = true := by rw [hk]; rfl
  have hb : valB v = be 8 (w64 v.k) ++ (be 8 (numW v.n)) := by unfold valB; rw [if_neg (by omega), if_neg (by omega), if_neg (by omega), if_pos hk]
  rw [hb]; clear hb hk
  have q1 : ∀ W, Below w.heap.size w W → Calls Tryz.prog 82 #[y, .int .i64 v.k] W (Puts W (l ++ be 8 (w64 v.k))) := fun W hb => rInt_any y l v.k W (Rd.below hy hb (Nat.le_refl _)) (by omega)
  have hlen : (l ++ be 8 (w64 v.k)).length ≤ 100008 := by rw [List.length_append, be_length]; omega
  have q2 : ∀ W z, Bs W z (l ++ be 8 (w64 v.k)) → Calls Tryz.prog 135 #[z, .float .f64 v.n] W (Puts W (l ++ be 8 (w64 v.k) ++ be 8 (numW v.n))) := fun W z hz => rNum_any z _ v.n W hz (by omega) hn
  have HW := Lib.hid ((Below.refl w.heap.size w).alloc (Nat.le_refl _) (.cells #[.int .i64 v.k, .int .i64 v.i, .bool v.b, .string v.s, .float .f64 v.n] 25))
  have Q1 := Lib.hid q1
  have Q2 := Lib.hid q2
  clear q1 hy hl hs hn hlen q2
  have tok1 : True := trivial
  go_enter Tryz.func83, Tryz.ntmps83
  go_wp2_with (first
    | (go_at_call 82; have _t := tok1; ((with_reducible refine (Q1.out _ (Below.refl _ _ |>.alloc (Nat.le_refl _) _)).mono ?_); intro e w1 hp1; obtain ⟨v1, rfl, hown1, hb1⟩ := hp1; obtain ⟨hc1, hf1⟩ := bcell hb1; have HO1 := Lib.hid hown1; clear hown1; clear tok1 _t))
    | (go_at_call 135; refine (Q2.out _ _ (Rd.of_own HO1.out)).mono ?_; intro e w2 hp2; have HP2 := Lib.hid hp2; clear hp2; obtain ⟨v2, rfl, -, -⟩ := HP2.out))
  go_ret
  exact PutsV.mk HP2.out (HW.out.trans (hb1.mono HW.out.size)) (Below.refl _ _) (by simp)

set_option maxHeartbeats 2000000 in
theorem rPut_0 (v : Vl) (y : Value) (l : List UInt8) (w : World) (h1 : v.k ≠ 1) (h2 : v.k ≠ 2) (h3 : v.k ≠ 3) (h4 : v.k ≠ 4) (hy : Bs w y l) (hl : l.length ≤ 100000) (hs : v.s.data.toList.length ≤ 100000) (hn : v.n < 18446744073709551616) : Calls Tryz.prog 83 #[y, agV v] w (PutsV w (l ++ valB v)) := by
  have hk1 : (v.k == 1) = false := by simpa using h1
  have hk2 : (v.k == 2) = false := by simpa using h2
  have hk3 : (v.k == 3) = false := by simpa using h3
  have hk4 : (v.k == 4) = false := by simpa using h4
  have hb : valB v = be 8 (w64 v.k) ++ ([]) := by unfold valB; rw [if_neg h1, if_neg h2, if_neg h3, if_neg h4]
  rw [hb]; clear hb h1 h2 h3 h4
  have q1 : ∀ W, Below w.heap.size w W → Calls Tryz.prog 82 #[y, .int .i64 v.k] W (Puts W (l ++ be 8 (w64 v.k))) := fun W hb => rInt_any y l v.k W (Rd.below hy hb (Nat.le_refl _)) (by omega)
  have hlen : (l ++ be 8 (w64 v.k)).length ≤ 100008 := by rw [List.length_append, be_length]; omega
  have HW := Lib.hid ((Below.refl w.heap.size w).alloc (Nat.le_refl _) (.cells #[.int .i64 v.k, .int .i64 v.i, .bool v.b, .string v.s, .float .f64 v.n] 25))
  have Q1 := Lib.hid q1
  clear q1 hy hl hs hn hlen
  have tok1 : True := trivial
  go_enter Tryz.func83, Tryz.ntmps83
  go_wp2_with (first
    | (go_at_call 82; have _t := tok1; ((with_reducible refine (Q1.out _ (Below.refl _ _ |>.alloc (Nat.le_refl _) _)).mono ?_); intro e w1 hp1; obtain ⟨v1, rfl, hown1, hb1⟩ := hp1; obtain ⟨hc1, hf1⟩ := bcell hb1; have HO1 := Lib.hid hown1; clear hown1; clear tok1 _t)))
  go_ret
  exact PutsV.mk ⟨_, rfl, HO1.out, hb1⟩ HW.out (Below.refl _ _) (by simp)

theorem rPut_val (v : Vl) (y : Value) (l : List UInt8) (w : World) (hy : Bs w y l) (hl : l.length ≤ 100000) (hs : v.s.data.toList.length ≤ 100000) (hn : v.n < 18446744073709551616) : Calls Tryz.prog 83 #[y, agV v] w (PutsV w (l ++ valB v)) := by
  by_cases h1 : v.k = 1
  · exact rPut_1 v y l w h1 hy hl hs hn
  by_cases h2 : v.k = 2
  · exact rPut_2 v y l w h2 hy hl hs hn
  by_cases h3 : v.k = 3
  · exact rPut_3 v y l w h3 hy hl hs hn
  by_cases h4 : v.k = 4
  · exact rPut_4 v y l w h4 hy hl hs hn
  exact rPut_0 v y l w h1 h2 h3 h4 hy hl hs hn

end Go.Proofs.YtkhpgejammgolaaGreat

/- Layer 4: Order by the document. -/
namespace Go.Proofs.YtkhpgejammgolaaGreat
open Go.RowKit
set_option linter.unusedVariables false
set_option linter.unusedSimpArgs false
set_option maxRecDepth 20000

end Go.Proofs.YtkhpgejammgolaaGreat

/- Layer 4: Equal, Less by the document. -/
namespace Go.Proofs.YtkhpgejammgolaaGreat
open Go.RowKit
set_option linter.unusedVariables false
set_option linter.unusedSimpArgs false
set_option maxRecDepth 20000

end Go.Proofs.YtkhpgejammgolaaGreat

/- Layer 4: what the laws begin with: boxes and a row of values; ValueCompares. -/
namespace Go.Proofs.YtkhpgejammgolaaGreat
open Go.RowKit
set_option linter.unusedVariables false
set_option linter.unusedSimpArgs false
set_option maxRecDepth 20000

end Go.Proofs.YtkhpgejammgolaaGreat

/- Layer 4: ValueCodes. -/
namespace Go.Proofs.YtkhpgejammgolaaGreat
open Go.RowKit
set_option linter.unusedVariables false
set_option linter.unusedSimpArgs false
set_option maxRecDepth 20000

/-- the row 9, made anew -/
theorem nine_bs (W : World) : Bs (W.alloc (.cells #[.int .u8 9] 5)) (.slice (some ⟨W.heap.size, 0, none⟩) 1 1) [9] := by
  have h := heap_alloc_new W (.cells #[.int .u8 9] 5)
  refine ⟨some ⟨W.heap.size, 0, none⟩, 1, rfl, Nat.le_refl _, by unfold maxLen; omega, (by intro h; cases h), fun _ => ⟨_, rfl, by simp, fun j u hu => ?_⟩⟩
  match j, hu with
  | 0, hu =>
    rw [Addr.add_zero']
    injection hu with hu
    subst hu
    exact (cell_of_row _ _ 0 _ _ (0, 0) h).trans rfl

theorem nine_one (W : World) (o : Obj) : Bs ((W.alloc o).alloc (.cells #[.int .u8 9] 5)) (.slice (some ⟨W.heap.size + 1, 0, none⟩) 1 1) [9] := by
  have h := nine_bs (W.alloc o)
  have e : (W.alloc o).heap.size = W.heap.size + 1 := by simp
  rwa [e] at h
theorem Bs.alloc {W : World} {v : Value} {l : List UInt8} (h : Bs W v l) (o : Obj) : Bs (W.alloc o) v l := Bs.below h ((Below.refl _ _).alloc (Nat.le_refl _) o) (Nat.le_refl _)

end Go.Proofs.YtkhpgejammgolaaGreat

/- Layer 2: digests of parts, by the program and by the document. -/
namespace Go.Proofs.YtkhpgejammgolaaGreat
open Go.RowKit
set_option linter.unusedVariables false

end Go.Proofs.YtkhpgejammgolaaGreat

/- Layer 4: ValueBack. -/
namespace Go.Proofs.YtkhpgejammgolaaGreat
open Go.RowKit
set_option linter.unusedVariables false
set_option linter.unusedSimpArgs false
set_option maxRecDepth 20000

end Go.Proofs.YtkhpgejammgolaaGreat

/- Layer 5: expressions as bytes by definition, there and back. -/
namespace Go.Proofs.YtkhpgejammgolaaGreat
open Go.RowKit
set_option linter.unusedVariables false
set_option linter.unusedSimpArgs false

/-- 5.3: the bytes of a small one -/
def putX : Nat → Ex → List UInt8
  | 0, _ => []
  | d + 1, e => be 8 (w64 e.op) ++ (be 4 e.kids.length ++ ((be 4 e.name.data.toList.length ++ e.name.data.toList) ++ (valB e.val ++ e.kids.flatMap (putX d))))
/-- a value, or the zero one: what it is, what is left, the error -/
def zeroF (rest : List UInt8) : Vl × List UInt8 × Int :=
  if wrap64 ((stepF 8 alInt rest 0).1 : Int) = 0 ∧ (stepF 8 alInt rest 0).2.2 = 0 then (vZero, (stepF 8 alInt rest 0).2.1, 0) else (getV rest 0, (readF rest 0).2.1, getE rest 0)
/-- so many kids -/
def getL (f : Int → List UInt8 → Except Int (Ex × Int × List UInt8)) : Nat → Int → List UInt8 → Except Int (List Ex × Int × List UInt8)
  | 0, n, r => .ok ([], n, r)
  | c + 1, n, r => match f n r with
    | .error e => .error e
    | .ok (k, n1, r1) => match getL f c n1 r1 with
      | .error e => .error e
      | .ok (ks, n2, r2) => .ok (k :: ks, n2, r2)
/-- 5.3: which expression bytes are, how many parts are left then, which bytes; H reads a part without its kids: its operation, how many kids, its name, its value, what is left -/
def getXH (H : List UInt8 → Except Int (Int × Nat × ByteArray × Vl × List UInt8)) : Nat → Int → List UInt8 → Except Int (Ex × Int × List UInt8)
  | 0, _, _ => .error 51
  | d + 1, n, rest =>
    if n < 1 then .error 51 else
    match H rest with
    | .error e => .error e
    | .ok (o, c, m, v, r4) => match getL (getXH H d) c (n - 1) r4 with
      | .error e => .error e
      | .ok (ks, n', r) => .ok (.mk o m v ks, n', r)
/-- a part without its kids -/
def headX (rest : List UInt8) : Except Int (Int × Nat × ByteArray × Vl × List UInt8) :=
  if (bytesF 16 (stepF 4 (alCount 3) (stepF 8 alInt rest 0).2.1 (stepF 8 alInt rest 0).2.2).2.1 (stepF 4 (alCount 3) (stepF 8 alInt rest 0).2.1 (stepF 8 alInt rest 0).2.2).2.2).2.2 ≠ 0
  then .error (bytesF 16 (stepF 4 (alCount 3) (stepF 8 alInt rest 0).2.1 (stepF 8 alInt rest 0).2.2).2.1 (stepF 4 (alCount 3) (stepF 8 alInt rest 0).2.1 (stepF 8 alInt rest 0).2.2).2.2).2.2
  else if (zeroF (bytesF 16 (stepF 4 (alCount 3) (stepF 8 alInt rest 0).2.1 (stepF 8 alInt rest 0).2.2).2.1 (stepF 4 (alCount 3) (stepF 8 alInt rest 0).2.1 (stepF 8 alInt rest 0).2.2).2.2).2.1).2.2 ≠ 0
  then .error (zeroF (bytesF 16 (stepF 4 (alCount 3) (stepF 8 alInt rest 0).2.1 (stepF 8 alInt rest 0).2.2).2.1 (stepF 4 (alCount 3) (stepF 8 alInt rest 0).2.1 (stepF 8 alInt rest 0).2.2).2.2).2.1).2.2
  else .ok (wrap64 ((stepF 8 alInt rest 0).1 : Int), (stepF 4 (alCount 3) (stepF 8 alInt rest 0).2.1 (stepF 8 alInt rest 0).2.2).1, strB (bytesF 16 (stepF 4 (alCount 3) (stepF 8 alInt rest 0).2.1 (stepF 8 alInt rest 0).2.2).2.1 (stepF 4 (alCount 3) (stepF 8 alInt rest 0).2.1 (stepF 8 alInt rest 0).2.2).2.2).1,
    (zeroF (bytesF 16 (stepF 4 (alCount 3) (stepF 8 alInt rest 0).2.1 (stepF 8 alInt rest 0).2.2).2.1 (stepF 4 (alCount 3) (stepF 8 alInt rest 0).2.1 (stepF 8 alInt rest 0).2.2).2.2).2.1).1,
    (zeroF (bytesF 16 (stepF 4 (alCount 3) (stepF 8 alInt rest 0).2.1 (stepF 8 alInt rest 0).2.2).2.1 (stepF 4 (alCount 3) (stepF 8 alInt rest 0).2.1 (stepF 8 alInt rest 0).2.2).2.2).2.1).2.1)
theorem headX_ok {rest r1 r2 r3 r4 m : List UInt8} {o c : Nat} {v : Vl} (h1 : stepF 8 alInt rest 0 = (o, r1, 0)) (h2 : stepF 4 (alCount 3) r1 0 = (c, r2, 0)) (h3 : bytesF 16 r2 0 = (m, r3, 0)) (h4 : zeroF r3 = (v, r4, 0)) : headX rest = .ok (wrap64 (o : Int), c, strB m, v, r4) := by
  unfold headX
  simp only [h1, h2, h3, h4]
  simp
theorem headX_no1 {rest r1 r2 r3 m : List UInt8} {o c : Nat} {e1 e2 e3 : Int} (h1 : stepF 8 alInt rest 0 = (o, r1, e1)) (h2 : stepF 4 (alCount 3) r1 e1 = (c, r2, e2)) (h3 : bytesF 16 r2 e2 = (m, r3, e3)) (h : e3 ≠ 0) : headX rest = .error e3 := by
  unfold headX
  simp only [h1, h2, h3]
  rw [if_pos h]
theorem headX_no2 {rest r1 r2 r3 r4 m : List UInt8} {o c : Nat} {e1 e2 e4 : Int} {v : Vl} (h1 : stepF 8 alInt rest 0 = (o, r1, e1)) (h2 : stepF 4 (alCount 3) r1 e1 = (c, r2, e2)) (h3 : bytesF 16 r2 e2 = (m, r3, 0)) (h4 : zeroF r3 = (v, r4, e4)) (h : e4 ≠ 0) : headX rest = .error e4 := by
  unfold headX
  simp only [h1, h2, h3, h4]
  rw [if_neg (by simp), if_pos h]
abbrev getX : Nat → Int → List UInt8 → Except Int (Ex × Int × List UInt8) := getXH headX

/-- are two small ones the same -/
def sameL (f : Ex → Ex → Bool) : List Ex → List Ex → Bool
  | [], [] => true
  | a :: la, b :: lb => f a b && sameL f la lb
  | _, _ => false
def sameX : Nat → Ex → Ex → Bool
  | 0, _, _ => true
  | d + 1, a, b => a.op == b.op && (a.name.toList == b.name.toList) && sameV a.val b.val && sameL (sameX d) a.kids b.kids

theorem getX_ok {H : List UInt8 → Except Int (Int × Nat × ByteArray × Vl × List UInt8)} {d c : Nat} {n n' o : Int} {rest r4 r : List UInt8} {m : ByteArray} {v : Vl} {ks : List Ex} (h0 : ¬ n < 1) (h1 : H rest = .ok (o, c, m, v, r4)) (h5 : getL (getXH H d) c (n - 1) r4 = .ok (ks, n', r)) :
    getXH H (d + 1) n rest = .ok (.mk o m v ks, n', r) := by
  rw [getXH, if_neg h0, h1]
  dsimp only
  rw [h5]
end Go.Proofs.YtkhpgejammgolaaGreat

/- Layer 5: expressions as bytes, by the program. -/
namespace Go.Proofs.YtkhpgejammgolaaGreat
open Go.RowKit
set_option linter.unusedVariables false
set_option linter.unusedSimpArgs false
set_option maxRecDepth 20000

/-- short texts, few kids -/
def txtX : Nat → Ex → Prop
  | 0, _ => True
  | d + 1, e => e.name.data.toList.length ≤ 1000 ∧ e.val.s.data.toList.length ≤ 1000 ∧ e.kids.length ≤ 1000 ∧ ∀ k ∈ e.kids, txtX d k
theorem valB_le (v : Vl) : (valB v).length ≤ 20 + v.s.data.toList.length := by
  unfold valB
  rw [List.length_append, be_length]
  split
  · rw [be_length]; omega
  split
  · rw [be_length]; omega
  split
  · rw [List.length_append, be_length]; omega
  split
  · rw [be_length]; omega
  · rw [List.length_nil]; omega
theorem flat_le (d : Nat) (h : ∀ e, txtX d e → (putX d e).length ≤ 2100 * sizeX d e) : ∀ ks : List Ex, (∀ k ∈ ks, txtX d k) → (ks.flatMap (putX d)).length ≤ 2100 * (ks.map (sizeX d)).sum
  | [], _ => Nat.zero_le _
  | k :: ks, hk => by
    rw [List.flatMap_cons, List.length_append, List.map_cons, List.sum_cons, Nat.mul_add]
    exact Nat.add_le_add (h k (hk k (List.mem_cons_self ..))) (flat_le d h ks fun x hx => hk x (List.mem_cons_of_mem _ hx))
theorem putX_le : ∀ d e, txtX d e → (putX d e).length ≤ 2100 * sizeX d e
  | 0, e, _ => Nat.zero_le _
  | d + 1, e, h => by
    obtain ⟨h1, h2, -, h4⟩ := h
    have hf := flat_le d (putX_le d) e.kids h4
    have hv := valB_le e.val
    unfold putX sizeX
    simp only [List.length_append, be_length]
    rw [Nat.mul_add]
    omega
theorem deep_size : ∀ d e, deepX d e → 1 ≤ sizeX d e
  | 0, e, h => False.elim h
  | d + 1, e, _ => by unfold sizeX; omega
theorem kids_size (d : Nat) : ∀ ks : List Ex, (∀ k ∈ ks, deepX d k) → ks.length ≤ (ks.map (sizeX d)).sum
  | [], _ => Nat.le_refl _
  | k :: ks, h => by
    have h1 := deep_size d k (h k (List.mem_cons_self ..))
    have h2 := kids_size d ks fun x hx => h x (List.mem_cons_of_mem _ hx)
    rw [List.length_cons, List.map_cons, List.sum_cons]
    omega
theorem mem_size (d : Nat) : ∀ (ks : List Ex) (k : Ex), k ∈ ks → sizeX d k ≤ (ks.map (sizeX d)).sum
  | k :: ks, x, h => by
    rw [List.map_cons, List.sum_cons]
    rcases List.mem_cons.1 h with rfl | h
    · omega
    · have := mem_size d ks x h; omega
/-- all texts are short -/
def shX : Nat → Ex → Prop
  | 0, _ => True
  | d + 1, e => e.name.data.toList.length ≤ 1000 ∧ e.val.s.data.toList.length ≤ 1000 ∧ ∀ k ∈ e.kids, shX d k
theorem txtX_of : ∀ d e, deepX d e → sizeX d e ≤ 1000 → shX d e → txtX d e
  | 0, _, _, _, _ => trivial
  | d + 1, e, hd, hs, h => by
    have h1 := kids_size d e.kids hd
    have hs' : 1 + (e.kids.map (sizeX d)).sum ≤ 1000 := hs
    exact ⟨h.1, h.2.1, by omega, fun k hk => txtX_of d k (hd k hk) (by have := mem_size d e.kids k hk; omega) (h.2.2 k hk)⟩
theorem bel2 {a b c : World} (h : Below a.heap.size a b) (k : Below b.heap.size b c) : Below a.heap.size a c := h.trans (k.mono h.size)
theorem capC_of {n : Nat} (h : n ≤ 1000) : (capC (n : Int)).toNat = n := by unfold capC; omega
theorem own_belowX {w w' : World} {base e s n : Nat} {v : Value} {xs : List Value} (h : w.ownsRow base e s v n xs) (hb : Below w.heap.size w w') : w'.ownsRow base e s v n xs := by
  obtain ⟨h1, h2⟩ := h
  refine ⟨h1, ?_⟩
  rcases h2 with h2 | ⟨g, cap, cur, e1, e2, e3, e4⟩
  · exact .inl h2
  · exact .inr ⟨g, cap, cur, e1, e2, (hb.block g (Array.getElem?_eq_some_iff.1 e3).1).trans e3, e4⟩
theorem own_len {w : World} {B : Nat} {v : Value} {n m : Nat} {l : List UInt8} (h : w.ownsRow B 5 1 v n (l.map bc)) (hm : m = l.length) : w.ownsRow B 5 1 v m (l.map bc) := by
  have h1 := h.1
  simp at h1
  subst hm
  rw [h1]; exact h
theorem own_nilrow {w w' : World} {B : Nat} {v : Value} {n : Nat} {l : List UInt8} (h : w.ownsRow B 5 1 v n (l.map bc)) : Bs w v l := Rd.of_own h

/-- what is put behind an own row -/
def PutsO (B : Nat) (l : List UInt8) (w : World) (e : Ending) (w' : World) : Prop := ∃ v', e = .returned v' ∧ w'.ownsRow B 5 1 v' l.length (l.map bc) ∧ Below B w w'
theorem take_put (d : Nat) (ks : List Ex) (k : Nat) (hk : k < ks.length) : (ks.take (k + 1)).flatMap (putX d) = (ks.take k).flatMap (putX d) ++ putX d ks[k] := by
  rw [List.take_succ_eq_append_getElem hk, List.flatMap_append]
  simp
theorem take_put_le (d : Nat) (ks : List Ex) (k : Nat) : ((ks.take k).flatMap (putX d)).length ≤ (ks.flatMap (putX d)).length := by
  have h : ks.flatMap (putX d) = (ks.take k).flatMap (putX d) ++ (ks.drop k).flatMap (putX d) := by rw [← List.flatMap_append, List.take_append_drop]
  rw [h, List.length_append]; omega
theorem text_bs (s : ByteArray) (h : s.data.toList.length ≤ 1000) (W : World) : Bs (Lib.bytesWorld W 5 s) (.slice (some ⟨W.heap.size, 0, none⟩) s.size (grownCap W s.size 0 5)) s.data.toList := by
  have h := bytesWorld_bs W s.data.toList (by unfold maxLen; omega) _ rfl
  rwa [← strB_of s] at h

set_option maxHeartbeats 4000000 in
theorem appendParts_any (w0 : World) (B : Nat) (hB0 : w0.heap.size ≤ B) : ∀ (D d : Nat) (e : Ex) (A : Option Addr) (c : Nat) (v : Value) (l : List UInt8) (w : World), ExK w0 D A c e → deepX d e → txtX d e → okX d e → Below w0.heap.size w0 w → B ≤ w.heap.size → w.ownsRow B 5 1 v l.length (l.map bc) → l.length + (putX d e).length ≤ 60000 →
    Calls Tryz.prog 48 #[v, agX e.op A e.kids.length c e.name e.val] w (PutsO B (l ++ putX d e) w)
  | 0, _, _, _, _, _, _, _, h, _, _, _, _, _, _, _ => False.elim h
  | D + 1, 0, _, _, _, _, _, _, _, h, _, _, _, _, _, _ => False.elim h
  | D + 1, d + 1, e, A, c, v, l, w, hx, hdp, htx, hok, hb, hB, hown, hlen => by
    obtain ⟨i0, hi, hz0, hz1, hz2⟩ := info_parts u8info
    obtain ⟨h2, h3, h4, h5⟩ := hx
    have ih := appendParts_any w0 B hB0 D
    obtain ⟨t1, t2, t3, t4⟩ := htx
    obtain ⟨⟨-, -, okn⟩, -, okk⟩ := hok
    replace hdp : ∀ k ∈ e.kids, deepX d k := hdp
    have hput : putX (d + 1) e = (be 8 (w64 e.op) ++ be 4 e.kids.length ++ be 4 e.name.data.toList.length ++ e.name.data.toList ++ valB e.val) ++ e.kids.flatMap (putX d) := by
      unfold putX
      simp only [List.append_assoc]
    rw [hput] at hlen ⊢
    clear hput
    generalize e.kids = ks at *
    generalize e.op = eop at *
    generalize e.name = enm at *
    generalize e.val = ev at *
    have hvl := valB_le ev
    have q1 : ∀ W, Calls Tryz.prog 100 #[.slice none 0 0, .int .i64 eop] W (Puts W (be 8 (w64 eop))) := fun W => PutInt_any _ [] eop W (Bs.nil W) (by simp)
    have q2 : ∀ W u, Bs W u (be 8 (w64 eop)) → Calls Tryz.prog 99 #[u, .int .i64 ks.length] W (Puts W (be 8 (w64 eop) ++ be 4 ks.length)) := fun W u hu => by
      have h := PutCount_any u _ ks.length W hu (by rw [be_length]; omega) (by omega) (by omega)
      rwa [capC_of t3] at h
    have hcv := fun (W : World) => Lib.run_convert_string_bytes (P := Tryz.prog) W 9 28 5 enm Tryz.underlying9 Tryz.underlying28 Tryz.underlying5
    have q3 : ∀ W z u, Bs W z (be 8 (w64 eop) ++ be 4 ks.length) → Bs W u enm.data.toList → Calls Tryz.prog 102 #[z, u] W (Puts W (be 8 (w64 eop) ++ be 4 ks.length ++ be 4 enm.data.toList.length ++ enm.data.toList)) := fun W z u hz hu => PutBytes_any z u _ _ W hz hu (by rw [List.length_append, be_length, be_length]; omega) (by omega)
    have q4 : ∀ W z, Bs W z (be 8 (w64 eop) ++ be 4 ks.length ++ be 4 enm.data.toList.length ++ enm.data.toList) → Calls Tryz.prog 101 #[z, agV ev] W (PutsV W (be 8 (w64 eop) ++ be 4 ks.length ++ be 4 enm.data.toList.length ++ enm.data.toList ++ valB ev)) := fun W z hz => Put_val ev z _ W hz (by simp only [List.length_append, be_length]; omega) (by omega) okn
    have hn : (be 8 (w64 eop) ++ be 4 ks.length ++ be 4 enm.data.toList.length ++ enm.data.toList ++ valB ev).length ≤ 3000 := by simp only [List.length_append, be_length]; omega
    have HBW := Lib.hid (text_bs enm t1)
    have Q1 := Lib.hid q1
    have Q2 := Lib.hid q2
    have Q3 := Lib.hid q3
    have Q4 := Lib.hid q4
    generalize be 8 (w64 eop) ++ be 4 ks.length ++ be 4 enm.data.toList.length ++ enm.data.toList ++ valB ev = hdl at *
    generalize be 8 (w64 eop) ++ be 4 ks.length ++ be 4 enm.data.toList.length ++ enm.data.toList = l3 at *
    generalize be 8 (w64 eop) ++ be 4 ks.length = l2 at *
    generalize be 8 (w64 eop) = l1 at *
    have HIH := Lib.hid (fun (j : Nat) (hj : j < ks.length) A' c' v l W (hx : ExK w0 D A' c' ks[j]) (hB' : Below w0.heap.size w0 W) (hs : B ≤ W.heap.size) (ho : W.ownsRow B 5 1 v l.length (l.map bc)) (hl : l.length + (putX d (ks[j]'hj)).length ≤ 60000) => ih d ks[j] A' c' v l W hx (hdp _ (List.getElem_mem hj)) (t4 _ (List.getElem_mem hj)) (okk _ (List.getElem_mem hj)) hB' hs ho hl)
    have H5 := Lib.hid h5
    have HTP := Lib.hid (take_put d ks)
    have HTL := Lib.hid (take_put_le d ks)
    have hkid := Lib.hid (Kid_new w eop A ks.length c enm ev)
    have hk3 : ks.length ≤ 9223372036854775807 := by omega
    clear ih h5 h2 h3 h4 q1 q2 q3 q4 t1 t2 t3 t4 okn okk hdp hvl
    have HW0 := Lib.hid (alloc1 w (bxX eop A ks.length c enm ev))
    have HVL := Lib.hid (fun k hk => hown.lt k hk)
    have HV := Lib.hid (own_belowX hown (alloc1 w (bxX eop A ks.length c enm ev)))
    have HLN := Lib.hid hlen
    have HN := Lib.hid hn
    have HB := Lib.hid hb
    have HBB := Lib.hid hB
    have HB0 := Lib.hid hB0
    clear hown hlen hn hb hB hB0
    go_enter Tryz.func48, Tryz.ntmps48
    go_upto_region 1 with fail
    have hsz : w.heap.size < (w.alloc (bxX eop A ks.length c enm ev)).heap.size := by simp
    generalize w.alloc (bxX eop A ks.length c enm ev) = wk at *
    have hall : ∀ W, Below wk.heap.size wk W → CellsX W w.heap.size eop A ks.length c enm ev := fun W h => hkid.out.below h
    have HALL := Lib.hid hall
    clear hall
    have hk1 : ∀ W W', (Below wk.heap.size wk W ∧ W.cell? ⟨w.heap.size, 0, none⟩ = some (.int .i64 eop) ∧ W.cell? ⟨w.heap.size, 1, none⟩ = some (.slice A ks.length c)) → Below W.heap.size W W' → (Below wk.heap.size wk W' ∧ W'.cell? ⟨w.heap.size, 0, none⟩ = some (.int .i64 eop) ∧ W'.cell? ⟨w.heap.size, 1, none⟩ = some (.slice A ks.length c)) :=
      fun W W' h hb => ⟨bel2 h.1 hb, (HALL.out W' (bel2 h.1 hb)).1, (HALL.out W' (bel2 h.1 hb)).2.1⟩
    have HK1 := Lib.hid hk1
    have hS1 : Below wk.heap.size wk wk.drew ∧ wk.drew.cell? ⟨w.heap.size, 0, none⟩ = some (.int .i64 eop) ∧ wk.drew.cell? ⟨w.heap.size, 1, none⟩ = some (.slice A ks.length c) := ⟨(Below.refl _ _).drew, (HALL.out _ (Below.refl _ _).drew).1, (HALL.out _ (Below.refl _ _).drew).2.1⟩
    have HS1 := Lib.hid hS1
    clear hk1 hS1
    go_cut [5] from 8 to 14 (fun s5 wx => ∃ v5, s5 = v5 ∧ Bs wx v5 l2 ∧ Below wk.heap.size wk wx)
    case first =>
      go_region_held3 (fun W => Below wk.heap.size wk W ∧ W.cell? ⟨w.heap.size, 0, none⟩ = some (.int .i64 eop) ∧ W.cell? ⟨w.heap.size, 1, none⟩ = some (.slice A ks.length c)) (first | exact HS1.out | exact HK1.out _ _ (by assumption) hbA | exact HK1.out _ _ (by assumption) hbB) (first
        | (go_at_call 100; refine (Q1.out _).mono ?_; rintro e wA ⟨v1, rfl, ho1, hbA⟩)
        | (go_at_call 99; refine (Q2.out _ _ (Rd.of_own ho1)).mono ?_; rintro e wB ⟨v2, rfl, ho2, hbB⟩))
      go_wp2_with fail
      go_meet
      exact ⟨_, rfl, Rd.of_own ho2, bel2 (bel2 (Below.refl _ _).drew hbA) hbB⟩
    case rest =>
    obtain ⟨v5, rfl, hv5, hb5⟩ := hcut
    have HV5 := Lib.hid hv5
    have hb6 := bel2 HW0.out hb5
    have hk2 : ∀ W W', (Below wc.heap.size wc W ∧ W.cell? ⟨w.heap.size, 2, none⟩ = some (.string enm) ∧ W.cell? ⟨w.heap.size, 3, none⟩ = some (.int .i64 ev.k) ∧ W.cell? ⟨w.heap.size, 4, none⟩ = some (.int .i64 ev.i) ∧ W.cell? ⟨w.heap.size, 5, none⟩ = some (.bool ev.b) ∧ W.cell? ⟨w.heap.size, 6, none⟩ = some (.string ev.s) ∧ W.cell? ⟨w.heap.size, 7, none⟩ = some (.float .f64 ev.n)) → Below W.heap.size W W' → (Below wc.heap.size wc W' ∧ W'.cell? ⟨w.heap.size, 2, none⟩ = some (.string enm) ∧ W'.cell? ⟨w.heap.size, 3, none⟩ = some (.int .i64 ev.k) ∧ W'.cell? ⟨w.heap.size, 4, none⟩ = some (.int .i64 ev.i) ∧ W'.cell? ⟨w.heap.size, 5, none⟩ = some (.bool ev.b) ∧ W'.cell? ⟨w.heap.size, 6, none⟩ = some (.string ev.s) ∧ W'.cell? ⟨w.heap.size, 7, none⟩ = some (.float .f64 ev.n)) :=
      fun W W' h hb => ⟨bel2 h.1 hb, (HALL.out W' (bel2 hb5 (bel2 h.1 hb))).2.2⟩
    have HK2 := Lib.hid hk2
    have hS2 : Below wc.heap.size wc wc.drew ∧ wc.drew.cell? ⟨w.heap.size, 2, none⟩ = some (.string enm) ∧ wc.drew.cell? ⟨w.heap.size, 3, none⟩ = some (.int .i64 ev.k) ∧ wc.drew.cell? ⟨w.heap.size, 4, none⟩ = some (.int .i64 ev.i) ∧ wc.drew.cell? ⟨w.heap.size, 5, none⟩ = some (.bool ev.b) ∧ wc.drew.cell? ⟨w.heap.size, 6, none⟩ = some (.string ev.s) ∧ wc.drew.cell? ⟨w.heap.size, 7, none⟩ = some (.float .f64 ev.n) := ⟨(Below.refl _ _).drew, (HALL.out _ (bel2 hb5 (Below.refl _ _).drew)).2.2⟩
    have HS2 := Lib.hid hS2
    have HB5 := Lib.hid hb5
    have HB6 := Lib.hid hb6
    clear hk2 hS2 hb5 hb6 hv5
    go_upto_region 2 with fail
    go_cut [5] from 15 to 22 (fun s5 wx => ∃ v6, s5 = v6 ∧ Bs wx v6 hdl ∧ Below wc.heap.size wc wx)
    case first =>
      refine wp_region_held_drew (S := (fun W => Below wc.heap.size wc W ∧ W.cell? ⟨w.heap.size, 2, none⟩ = some (.string enm) ∧ W.cell? ⟨w.heap.size, 3, none⟩ = some (.int .i64 ev.k) ∧ W.cell? ⟨w.heap.size, 4, none⟩ = some (.int .i64 ev.i) ∧ W.cell? ⟨w.heap.size, 5, none⟩ = some (.bool ev.b) ∧ W.cell? ⟨w.heap.size, 6, none⟩ = some (.string ev.s) ∧ W.cell? ⟨w.heap.size, 7, none⟩ = some (.float .f64 ev.n))) (by kernel_rfl) (HS2.out) (fun hHeld => ?_)
      refine wpAnyH_take (i := 0) (oi := ?oi1) (v := ?v1) ?hi1 (by kernel_rfl) (by kernel_rfl) (by kernel_rfl) ?hQ1 (Or.inl ⟨?hw1, ?hy1⟩) (by assumption) ?rest1
      case hi1 => (simp only [gA, gB, gC]; rfl)
      case hQ1 => exact fun _ _ _ h => h
      case hw1 => rfl
      case hy1 => (intro w hSw; (try dsimp only at hSw); go_simp; try with_reducible rfl)
      (try simp only [Act.put, sA, sB, sC])
      refine wpAnyH_take (i := 1) (oi := ?oi2) (v := ?v2) ?hi2 (by kernel_rfl) (by kernel_rfl) (by kernel_rfl) ?hQ2 (Or.inl ⟨?hw2, ?hy2⟩) (by assumption) ?rest2
      case hi2 => (simp only [gA, gB, gC]; rfl)
      case hQ2 => exact fun _ _ _ h => h
      case hw2 => rfl
      case hy2 => (intro w hSw; (try dsimp only at hSw); go_simp; try with_reducible rfl)
      (try simp only [Act.put, sA, sB, sC])
      refine wpAnyH_take (i := 2) (oi := ?oi3) (v := ?v3) ?hi3 (by kernel_rfl) (by kernel_rfl) (by kernel_rfl) ?hQ3 (Or.inl ⟨?hw3, ?hy3⟩) (by assumption) ?rest3
      case hi3 => (simp only [gA, gB, gC]; rfl)
      case hQ3 => exact fun _ _ _ h => h
      case hw3 => rfl
      case hy3 => (intro w hSw; (try dsimp only at hSw); go_simp; try with_reducible rfl)
      (try simp only [Act.put, sA, sB, sC])
      refine wpAnyH_take (i := 5) (oi := ?oi4) (v := ?v4) ?hi4 (by kernel_rfl) (by kernel_rfl) (by kernel_rfl) ?hQ4 (Or.inl ⟨?hw4, ?hy4⟩) (by assumption) ?rest4
      case hi4 => (simp only [gA, gB, gC]; rfl)
      case hQ4 => exact fun _ _ _ h => h
      case hw4 => rfl
      case hy4 => (intro w hSw; (try dsimp only at hSw); go_simp; try with_reducible rfl)
      (try simp only [Act.put, sA, sB, sC])
      refine wpAnyH_take (i := 6) (oi := ?oi5) (v := ?v5) ?hi5 (by kernel_rfl) (by kernel_rfl) (by kernel_rfl) ?hQ5 (Or.inl ⟨?hw5, ?hy5⟩) (by assumption) ?rest5
      case hi5 => (simp only [gA, gB, gC]; rfl)
      case hQ5 => exact fun _ _ _ h => h
      case hw5 => rfl
      case hy5 => (intro w hSw; (try dsimp only at hSw); go_simp; try with_reducible rfl)
      (try simp only [Act.put, sA, sB, sC])
      refine wpAnyH_ready (rs := [3]) (by kernel_rfl) (by simp) ?_
      refine AllReadyH.cons (o := ?o6) ?ho6 (fun K hK => ?st6) AllReadyH.nil
      case ho6 => (simp only [gA, gB, gC]; rfl)
      go_simp
      refine hK.out _ _ ?_ (fun hHeld => ?_)
      · (try dsimp only); exact HK2.out _ _ hHeld (bytesWorld_below _ _ _)
      clear hK K
      (try simp only [Act.put, sA, sB, sC])
      refine wpAnyH_ready (rs := [4]) (by kernel_rfl) (by simp) ?_
      refine AllReadyH.cons (o := ?o7) ?ho7 (fun K hK => ?st7) AllReadyH.nil
      case ho7 => (simp only [gA, gB, gC]; rfl)
      go_simp
      go_at_call 102
      refine (Q3.out _ _ _ (Rd.below HV5.out (bel2 (Below.refl _ _).drew (bytesWorld_below _ _ _)) (Nat.le_refl _)) (HBW.out _)).mono ?_
      rintro e wC ⟨v3, rfl, ho3, hbC⟩
      refine hK.out _ _ ?_ (fun hHeld => ?_)
      · (try dsimp only); exact HK2.out _ _ hHeld hbC
      clear hK K
      (try simp only [Act.put, sA, sB, sC])
      refine wpAnyH_ready (rs := [7]) (by kernel_rfl) (by simp) ?_
      refine AllReadyH.cons (o := ?o8) ?ho8 (fun K hK => ?st8) AllReadyH.nil
      case ho8 => (simp only [gA, gB, gC]; rfl)
      go_simp
      go_at_call 101
      refine (Q4.out _ _ (Rd.of_own ho3)).mono ?_
      rintro e wD ⟨v4, B4, rfl, -, ho4, hbD⟩
      refine hK.out _ _ ?_ (fun hHeld => ?_)
      · (try dsimp only); exact HK2.out _ _ hHeld hbD
      clear hK K
      (try simp only [Act.put, sA, sB, sC])
      refine wpAnyH_take (i := 8) (oi := ?oi9) (v := ?v9) ?hi9 (by kernel_rfl) (by kernel_rfl) (by kernel_rfl) ?hQ9 (Or.inl ⟨?hw9, ?hy9⟩) (by assumption) ?rest9
      case hi9 => (simp only [gA, gB, gC]; rfl)
      case hQ9 => exact fun _ _ _ h => h
      case hw9 => rfl
      case hy9 => (intro w hSw; (try dsimp only at hSw); go_simp; try with_reducible rfl)
      (try simp only [Act.put, sA, sB, sC])
      refine wpAnyH_done (by kernel_rfl) ?_ _
      go_wp2_with fail
      go_meet
      exact ⟨_, rfl, Rd.of_own ho4, bel2 (bel2 (bel2 (Below.refl _ _).drew (bytesWorld_below _ _ _)) hbC) hbD⟩
    case rest =>
    obtain ⟨v6, rfl, hv6, hb7⟩ := hcut
    clear HK2 HS2 HK1 HS1 HV5
    have HV6 := Lib.hid hv6
    have HB7 := Lib.hid (bel2 HB5.out hb7)
    have HB8 := Lib.hid (bel2 HB6.out hb7)
    clear hv6 hb7
    rename_i wd
    obtain ⟨k0, k1, k2, k3, k4, k5, k6, k7⟩ := HALL.out _ HB7.out
    go_wp2_with (at_builtin; refine wpList_append_rd _ rfl _ _ 28 rfl B 5 i0 (.int .u8 0) 1 Tryz.underlying28 hi hz0 hz1 hz2 rfl _ _ _ rfl (own_belowX HV.out HB7.out) _ _ rfl HV6.out (bc_one hdl) (by have := HLN.out; simp only [List.length_map, List.length_append] at this ⊢; unfold maxLen; omega) (by have := HLN.out; simp only [List.length_map, List.length_append] at this ⊢; omega) (by have h1 := HBB.out; have h2 := HB8.out.size; omega) ?_; intro v7 w7 hown7 hgr70; have hgr7 : wc.grownBy w7 v.ownBlock := hgr70; clear hgr70; have hwl := World.block_lt_of_cell? wc _ k1; have hc7 := (World.cell?_of_block (a := ⟨w.heap.size, 1, none⟩) (hgr7.block w.heap.size hwl (fun e => absurd (HVL.out _ e.symm).2 (Nat.lt_irrefl _)))).trans k1; clear k0 k1 k2 k3 k4 k5 k6 k7; have HB9 := Lib.hid ((HB8.out.mono HBB.out).grown hgr7 (Nat.le_trans HBB.out HB8.out.size) (fun k hk => (HVL.out k hk).1)); rw [← List.map_append] at hown7; have HO7 := Lib.hid (own_len hown7 rfl); clear hown7 hgr7 hwl)
    go_loopw [0, 29] (fun v i wr => ∃ k : Nat, k ≤ ks.length ∧ i = .int .i64 k ∧ wr.ownsRow B 5 1 v (l ++ hdl ++ (ks.take k).flatMap (putX d)).length ((l ++ hdl ++ (ks.take k).flatMap (putX d)).map bc) ∧ Below B w wr) (fun _ i _ => ks.length - (intOf i).toNat)
    case atStart => exact ⟨0, Nat.zero_le _, rfl, by rw [List.take_zero, List.flatMap_nil, List.append_nil]; exact HO7.out, HB9.out⟩
    case round =>
      obtain ⟨k, hk, rfl, ho, hbr⟩ := hrel
      have HO := Lib.hid ho
      have HBR := Lib.hid hbr
      by_cases hlt : k < ks.length
      · obtain ⟨ad, A', c', rfl, hbl, hkid2, hsub⟩ := H5.out k hlt
        have hB : Below w0.heap.size w0 wr := HB.out.trans (hbr.mono HB0.out)
        obtain ⟨q0, q1, q2, q3, q4, q5, q6, q7⟩ := hkid2.below hB (by rw [block_add]; exact hbl)
        have hcall := fun o v l ho hl => HIH.out k hlt A' c' v l (wr.alloc o) hsub (hB.trans (((Below.refl _ _).alloc (Nat.le_refl _) o).mono hB.size)) (by have := HBB.out; have := hbr.size; simp; omega) ho hl
        have hln : (l ++ hdl ++ (ks.take k).flatMap (putX d)).length + (putX d ks[k]).length ≤ 60000 := by
          have h1 := HTL.out (k + 1)
          rw [HTP.out k hlt, List.length_append] at h1
          have h2 := HLN.out
          simp only [List.length_append] at h2 ⊢
          omega
        have HLL := Lib.hid hln
        have hltI : (k : Int) < (ks.length : Int) := by omega
        have HTK := Lib.hid (HTP.out k hlt)
        generalize putX d ks[k] = pk at hcall HLL HTK
        generalize ks[k].op = ko at q0 hcall
        generalize ks[k].name = kn at q2 hcall
        generalize ks[k].val = ky at q3 q4 q5 q6 q7 hcall
        generalize ks[k].kids.length = kl at q1 hcall
        have HC := Lib.hid hcall
        have hsf := fun (w : World) (a : Addr) (m : Mode) (b : Nat) => run_store Tryz.prog w a (.float .f64 b) m rfl
        clear hcall hkid2 hsub hB hln ho hbr hc7
        go_wp2_with (go_at_call 48; refine (HC.out _ _ _ (HO.out.alloc _) HLL.out).mono ?_; rintro e w2 ⟨v2, rfl, ho2, hb2⟩)
        go_roundw
        case rel => exact ⟨k + 1, by omega, by go_num, by rw [HTK.out, ← List.append_assoc]; exact ho2, (HBR.out.alloc (by have := HBB.out; have := HBR.out.size; omega) _).trans hb2⟩
        case measure => simp [intOf]; omega
      · obtain rfl : k = ks.length := by omega
        clear ho hbr hc7
        go_wp2
        go_ret
        exact ⟨_, rfl, by have h := HO.out; rw [List.take_length] at h; rw [← List.append_assoc]; exact h, HBR.out⟩
/-- a clone's row is owned -/
theorem Clone_puts (v : Value) (l : List UInt8) (w : World) (hv : Bs w v l) (hl : l.length ≤ 140737488355320) : Calls Tryz.prog 43 #[v] w (Puts w l) := by
  obtain ⟨i0, hi, hz0, hz1, hz2⟩ := info_parts u8info
  obtain ⟨A, c, rfl, hc, hmx, hn, -⟩ := hv.open
  rcases A with _ | ad
  · have hc0 := hn rfl
    subst hc0
    have hl0 : l = [] := List.eq_nil_of_length_eq_zero (by omega)
    subst hl0
    clear hn hv
    have he := fun (w : World) => Lib.run_eql_slice_nil (P := Tryz.prog) w 28 5 none 0 0 0 0 Tryz.underlying28
    simp only [List.length_nil]
    go_enter Tryz.func43, Tryz.ntmps43
    go_wp2
    go_ret
    exact ⟨_, rfl, World.ownsRow_nil _ _ _ _, Below.refl _ _⟩
  · clear hn
    have hv' : Rd w (.slice (some ad) l.length c) (l.map bc) := hv
    have HV := Lib.hid hv'
    clear hv hv'
    have he := fun (w : World) => Lib.run_eql_slice_nil (P := Tryz.prog) w 28 5 (some ad) l.length c 0 0 Tryz.underlying28
    go_enter Tryz.func43, Tryz.ntmps43
    go_wp2_with (at_builtin; refine wpList_append_rd _ rfl _ _ 28 rfl w.heap.size 5 i0 (.int .u8 0) 1 Tryz.underlying28 hi hz0 hz1 hz2 rfl _ _ _ rfl (own_empty _ _ _ _ (by simp) (by simp)) _ _ rfl (Rd.below HV.out ((Below.refl w.heap.size w).alloc (Nat.le_refl _) _) (Nat.le_refl _)) (bc_one l) (by simp; unfold maxLen; omega) (by simp; omega) (by simp) ?_; intro v2 w2 hown2 hg2)
    go_ret
    refine ⟨_, rfl, by simpa using hown2, ?_⟩
    exact ((Below.refl w.heap.size w).alloc (Nat.le_refl _) _).grown hg2 (by simp) (by intro k h; injection h with h; simp only at h; omega)
/-- what Put puts -/
def putE (e : Ex) : List UInt8 := if smallX e = true then putX 6 e else []
theorem putE_le (e : Ex) (h : smallX e = true → txtX 6 e) : (putE e).length ≤ 50400 := by
  unfold putE
  split
  · rename_i hs
    have h1 := putX_le 6 e (h hs)
    have h2 := ((smallX_iff e).1 hs).2
    omega
  · simp
set_option maxHeartbeats 1000000 in
/-- Put -/
theorem ePut_any (D : Nat) (e : Ex) (A : Option Addr) (c : Nat) (v : Value) (l : List UInt8) (w : World) (hx : ExK w D A c e) (htx : smallX e = true → txtX 6 e) (hok : okX 6 e) (hv : Bs w v l) (hl : l.length ≤ 5000) :
    Calls Tryz.prog 17 #[v, agX e.op A e.kids.length c e.name e.val] w (PutsV w (l ++ putE e)) := by
  have hle := putE_le e htx
  have q1 : ∀ W, Below w.heap.size w W → Calls Tryz.prog 43 #[v] W (Puts W l) := fun W hb => Clone_puts v l W (Rd.below hv hb (Nat.le_refl _)) (by omega)
  have q2 : ∀ W, Below w.heap.size w W → Calls Tryz.prog 47 #[agX e.op A e.kids.length c e.name e.val] W (VMk (.bool (smallX e)) W) := fun W hb => small_any D e A c W (hx.below hb (Nat.le_refl _))
  have q3 : smallX e = true → ∀ B z W, w.heap.size ≤ B → Below w.heap.size w W → B ≤ W.heap.size → W.ownsRow B 5 1 z l.length (l.map bc) → Calls Tryz.prog 48 #[z, agX e.op A e.kids.length c e.name e.val] W (PutsO B (l ++ putE e) W) := fun hs B z W h1 h2 h3 h4 => by
    have hp : putE e = putX 6 e := if_pos hs
    rw [hp] at hle ⊢
    exact appendParts_any w B h1 D 6 e A c z l W hx ((smallX_iff e).1 hs).1 (htx hs) hok h2 h3 h4 (by omega)
  have hno : smallX e = false → putE e = [] := fun h => if_neg (by rw [h]; decide)
  have HK := Lib.hid (Kid_new w e.op A e.kids.length c e.name e.val)
  have HW := Lib.hid (alloc1 w (bxX e.op A e.kids.length c e.name e.val))
  generalize putE e = pe at *
  have Q1 := Lib.hid q1
  have HNO := Lib.hid hno
  clear q1 hx htx hok hv hle hno
  generalize smallX e = sm at *
  have Q2 := Lib.hid q2
  have Q3 := Lib.hid q3
  clear q2 q3
  generalize e.kids.length = n at *
  generalize e.op = eop at *
  generalize e.name = enm at *
  generalize e.val = ev at *
  rcases sm with _ | _
  · have hp := HNO.out rfl
    subst hp
    go_enter Tryz.func17, Tryz.ntmps17
    go_wp2_with fail
    refine (Q1.out _ HW.out).mono ?_
    rintro _ w1 ⟨v1, rfl, ho1, hb1⟩
    have HO1 := Lib.hid ho1
    have HB1 := Lib.hid (bel2 HW.out hb1)
    obtain ⟨k0, k1, k2, k3, k4, k5, k6, k7⟩ := HK.out.below hb1
    clear ho1 hb1
    go_wp2_with fail
    refine (Q2.out _ HB1.out).mono ?_
    rintro _ w2 ⟨rfl, hb2⟩
    go_wp2
    go_ret
    exact ⟨_, _, rfl, HW.out.size, by rw [List.append_nil]; exact own_belowX HO1.out hb2, bel2 HB1.out hb2⟩
  · go_enter Tryz.func17, Tryz.ntmps17
    go_wp2_with fail
    refine (Q1.out _ HW.out).mono ?_
    rintro _ w1 ⟨v1, rfl, ho1, hb1⟩
    have HO1 := Lib.hid ho1
    have HB1 := Lib.hid (bel2 HW.out hb1)
    have HZ1 := Lib.hid hb1.size
    have HK1 := Lib.hid (HK.out.below hb1)
    obtain ⟨k0, k1, k2, k3, k4, k5, k6, k7⟩ := HK1.out
    clear ho1 hb1
    go_wp2_with fail
    refine (Q2.out _ HB1.out).mono ?_
    rintro _ w2 ⟨rfl, hb2⟩
    clear k0 k1 k2 k3 k4 k5 k6 k7
    have HO2 := Lib.hid (own_belowX HO1.out hb2)
    have HB2 := Lib.hid (bel2 HB1.out hb2)
    have HZ2 := Lib.hid (Nat.le_trans HZ1.out hb2.size)
    obtain ⟨k0, k1, k2, k3, k4, k5, k6, k7⟩ := HK1.out.below hb2
    clear hb2
    go_wp2_with fail
    refine (Q3.out (by trivial) _ _ _ HW.out.size HB2.out HZ2.out HO2.out).mono ?_
    rintro _ w3 ⟨v3, rfl, ho3, hb3⟩
    go_wp2
    go_ret
    exact ⟨_, _, rfl, HW.out.size, ho3, HB2.out.trans (hb3.mono HW.out.size)⟩
end Go.Proofs.YtkhpgejammgolaaGreat

/- Layer 5: is an expression small, by the document; does it name a field. -/
namespace Go.Proofs.YtkhpgejammgolaaGreat
open Go.RowKit
set_option linter.unusedVariables false
set_option linter.unusedSimpArgs false
set_option maxRecDepth 20000

theorem leftF_ge : ∀ (d : Nat) (e : Ex) (n : Int), 0 ≤ n → -1 ≤ leftF d e n
  | 0, e, n, _ => by show (-1 : Int) ≤ -1; omega
  | d + 1, e, n, h => by
    have hl : ∀ (ks : List Ex) (m : Int), -1 ≤ m → -1 ≤ leftL (leftF d) ks m := by
      intro ks
      induction ks with
      | nil => intro m hm; exact hm
      | cons k ks ih =>
        intro m hm
        unfold leftL
        split
        · exact hm
        · exact ih _ (leftF_ge d k m (by omega))
    exact hl e.kids (n - 1) (by omega)
set_option maxHeartbeats 2000000 in
theorem left_any : ∀ (D : Nat) (d : Nat) (e : Ex) (A : Option Addr) (c : Nat) (n deep : Int) (w : World), d ≤ 6 → deep = d → 0 ≤ n → n ≤ 24 → ExK w D A c e →
    Calls Tryz.prog 42 #[agX e.op A e.kids.length c e.name e.val, .int .i64 deep, .int .i64 n] w (VMk (.int .i64 (leftF d e n)) w)
  | 0, _, _, _, _, _, _, _, _, _, _, _, h => False.elim h
  | D + 1, d, e, A, c, n, deep, w, hd, hdeep, h0, h1, hx => by
    obtain ⟨h2, h3, h4, h5⟩ := hx
    have ih := left_any D
    unfold maxLen at h3
    have hlen : e.kids.length ≤ 9223372036854775807 := by omega
    have hwn : IntKind.i64.wrap (n - 1) = n - 1 := by rw [IntKind.wrap_i64]; omega
    cases d with
    | zero =>
      subst hdeep
      have hr : leftF 0 e n = -1 := rfl
      rw [hr]
      clear hr ih h5 h3 h4 h2 hd
      go_enter Tryz.func42, Tryz.ntmps42
      go_wp2
      go_ret
      exact ⟨rfl, (Below.refl _ _).alloc (Nat.le_refl _) _⟩
    | succ d' =>
      have hm : leftF (d' + 1) e n = leftL (leftF d') e.kids (n - 1) := rfl
      rw [hm]
      have hwd : IntKind.i64.wrap (deep - 1) = deep - 1 := by rw [IntKind.wrap_i64]; omega
      have hdp : ¬ deep < 1 := by omega
      have HIH := Lib.hid (fun e A c n W (hx : ExK w D A c e) (hn : 0 ≤ n) (hn4 : n ≤ 24) (hB : Below w.heap.size w W) => ih d' e A c n (deep - 1) W (by omega) (by omega) hn hn4 (hx.below hB (Nat.le_refl _)))
      have H5 := Lib.hid h5
      have HD := Lib.hid (And.intro hd hdeep)
      clear hm ih h5 hd hdeep h2 h3 h4
      generalize e.kids = ks at *
      generalize e.op = eop at *
      generalize e.name = enm at *
      generalize e.val = ev at *
      have hbx := Lib.hid (Kid_new w eop A ks.length c enm ev)
      go_enter Tryz.func42, Tryz.ntmps42
      go_wp2
      go_loopw [2, 7] (fun nv i wr => ∃ (k : Nat) (m : Int), k ≤ ks.length ∧ nv = .int .i64 m ∧ i = .int .i64 k ∧ leftL (leftF d') (ks.drop k) m = leftL (leftF d') ks (n - 1) ∧ -1 ≤ m ∧ m ≤ 24 ∧ Below w.heap.size w wr ∧ wr.cell? ⟨w.heap.size, 1, none⟩ = some (.slice A ks.length c)) (fun _ i _ => ks.length - (intOf i).toNat)
      case atStart => exact ⟨0, n - 1, Nat.zero_le _, rfl, rfl, rfl, by omega, by omega, (Below.refl _ _).alloc (Nat.le_refl _) _, hbx.out.2.1⟩
      case round =>
        obtain ⟨k, m, hk, rfl, rfl, hm, hm0, hm4, hb, hc⟩ := hrel
        by_cases hlt : k < ks.length
        · by_cases hp : 0 ≤ m
          · obtain ⟨ad, A', c', rfl, hbl, hkid, hsub⟩ := H5.out k hlt
            obtain ⟨q0, q1, q2, q3, q4, q5, q6, q7⟩ := hkid.below hb (by rw [block_add]; exact hbl)
            have hcall := HIH.out ks[k] A' c' m wr hsub hp hm4 hb
            have hdr := leftL_drop (leftF d') ks k hlt m hp
            have hle := leftF_le d' ks[k] m
            have hge := leftF_ge d' ks[k] m hp
            rw [hdr] at hm
            generalize leftF d' ks[k] m = m' at hcall hm hle hge
            generalize ks[k].op = ko at q0 hcall
            generalize ks[k].name = kn at q2 hcall
            generalize ks[k].val = ky at q3 q4 q5 q6 q7 hcall
            generalize ks[k].kids.length = kl at q1 hcall
            have HC := Lib.hid hcall
            have HM := Lib.hid hm
            have hcl := World.block_lt_of_cell? wr _ hc
            have hltI : (k : Int) < (ks.length : Int) := by omega
            clear hcall hm hdr hkid hsub
            go_wp2_with (go_at_call 42; refine HC.out.mono ?_; rintro e w2 ⟨rfl, hb2⟩)
            go_roundw
            case rel => exact ⟨k + 1, m', by omega, rfl, by go_num, HM.out, hge, by omega, hb.trans (hb2.mono hb.size), keepc hb2 hcl hc⟩
            case measure => simp [intOf]; omega
          · have hr : m = leftL (leftF d') ks (n - 1) := by rw [← hm, leftL_neg _ _ _ (by omega)]
            have HR := Lib.hid hr
            have hltI : (k : Int) < (ks.length : Int) := by omega
            clear hr hm
            go_wp2
            go_ret
            exact ⟨ret_int HR.out, hb⟩
        · obtain rfl : k = ks.length := by omega
          have hr : m = leftL (leftF d') ks (n - 1) := by rw [← hm, List.drop_length]; rfl
          have HR := Lib.hid hr
          clear hr hm
          go_wp2
          go_ret
          exact ⟨ret_int HR.out, hb⟩
theorem rSmall_any (D : Nat) (e : Ex) (A : Option Addr) (c : Nat) (w : World) (hx : ExK w D A c e) : Calls Tryz.prog 11 #[agX e.op A e.kids.length c e.name e.val] w (VMk (.bool (smallX e)) w) := by
  have hl := fun o => left_any D 6 e A c 24 6 (w.alloc o) (by omega) (by decide) (by decide) (by decide) (hx.below ((Below.refl w.heap.size w).alloc (Nat.le_refl _) o) (Nat.le_refl _))
  have hs : smallX e = decide (0 ≤ leftF 6 e 24) := rfl
  rw [hs]
  clear hs hx
  generalize leftF 6 e 24 = m at *
  generalize e.kids.length = n at *
  generalize e.op = eop at *
  generalize e.name = enm at *
  generalize e.val = ev at *
  have HL := Lib.hid hl
  clear hl
  go_enter Tryz.func11, Tryz.ntmps11
  go_wp2_with (go_at_call 42; refine (HL.out _).mono ?_; rintro e w1 ⟨rfl, hb1⟩)
  go_ret
  exact ⟨rfl, ((Below.refl _ _).alloc (Nat.le_refl _) _).trans (hb1.mono (by simp))⟩
end Go.Proofs.YtkhpgejammgolaaGreat

/- Layer 5: expressions as bytes, by the document. -/
namespace Go.Proofs.YtkhpgejammgolaaGreat
open Go.RowKit
set_option linter.unusedVariables false
set_option linter.unusedSimpArgs false
set_option maxRecDepth 20000

theorem PutsV.to {w W w' : World} {l : List UInt8} {e : Ending} (h : PutsV W l e w') (hb : Below w.heap.size w W) : PutsV w l e w' := by
  obtain ⟨v', B, rfl, h0, h1, h2⟩ := h
  exact ⟨v', B, rfl, Nat.le_trans hb.size h0, h1, bel2 hb h2⟩
set_option maxHeartbeats 4000000 in
theorem rput_any : ∀ (D d : Nat) (e : Ex) (A : Option Addr) (c : Nat) (v : Value) (l : List UInt8) (w : World), ExK w D A c e → deepX d e → txtX d e → okX d e → Bs w v l → l.length + (putX d e).length ≤ 60000 →
    Calls Tryz.prog 49 #[v, agX e.op A e.kids.length c e.name e.val] w (PutsV w (l ++ putX d e))
  | 0, _, _, _, _, _, _, _, h, _, _, _, _, _ => False.elim h
  | D + 1, 0, _, _, _, _, _, _, _, h, _, _, _, _ => False.elim h
  | D + 1, d + 1, e, A, c, v, l, w, hx, hdp, htx, hok, hv, hlen => by
    obtain ⟨h2, h3, h4, h5⟩ := hx
    have ih := rput_any D
    obtain ⟨t1, t2, t3, t4⟩ := htx
    obtain ⟨⟨-, -, okn⟩, -, okk⟩ := hok
    replace hdp : ∀ k ∈ e.kids, deepX d k := hdp
    have hput : putX (d + 1) e = (be 8 (w64 e.op) ++ be 4 e.kids.length ++ be 4 e.name.data.toList.length ++ e.name.data.toList ++ valB e.val) ++ e.kids.flatMap (putX d) := by
      unfold putX
      simp only [List.append_assoc]
    rw [hput] at hlen ⊢
    clear hput
    generalize e.kids = ks at *
    generalize e.op = eop at *
    generalize e.name = enm at *
    generalize e.val = ev at *
    have hvl := valB_le ev
    have hlen' := hlen
    simp only [List.length_append, be_length] at hlen'
    have q1 : ∀ W, Below w.heap.size w W → Calls Tryz.prog 82 #[v, .int .i64 eop] W (Puts W (l ++ be 8 (w64 eop))) := fun W hb => rInt_any _ l eop W (Rd.below hv hb (Nat.le_refl _)) (by omega)
    have q2 : ∀ W u, Bs W u (l ++ be 8 (w64 eop)) → Calls Tryz.prog 80 #[u, .int .i64 ks.length] W (Puts W (l ++ be 8 (w64 eop) ++ be 4 ks.length)) := fun W u hu => by
      have h := rCount_any u _ ks.length W hu (by rw [List.length_append, be_length]; omega) (by omega) (by omega)
      rwa [capC_of t3] at h
    have hcv := fun (W : World) => Lib.run_convert_string_bytes (P := Tryz.prog) W 9 28 5 enm Tryz.underlying9 Tryz.underlying28 Tryz.underlying5
    have q3 : ∀ W z u, Bs W z (l ++ be 8 (w64 eop) ++ be 4 ks.length) → Bs W u enm.data.toList → Calls Tryz.prog 103 #[z, u] W (Puts W (l ++ be 8 (w64 eop) ++ be 4 ks.length ++ be 4 enm.data.toList.length ++ enm.data.toList)) := fun W z u hz hu => rBytes_any z u _ _ W hz hu (by simp only [List.length_append, be_length]; omega) (by omega)
    have q4 : ∀ W z, Bs W z (l ++ be 8 (w64 eop) ++ be 4 ks.length ++ be 4 enm.data.toList.length ++ enm.data.toList) → Calls Tryz.prog 83 #[z, agV ev] W (PutsV W (l ++ be 8 (w64 eop) ++ be 4 ks.length ++ be 4 enm.data.toList.length ++ enm.data.toList ++ valB ev)) := fun W z hz => rPut_val ev z _ W hz (by simp only [List.length_append, be_length]; omega) (by omega) okn
    have HBW := Lib.hid (text_bs enm t1)
    have Q1 := Lib.hid q1
    have Q2 := Lib.hid q2
    have Q3 := Lib.hid q3
    have Q4 := Lib.hid q4
    have hlz : l ++ (be 8 (w64 eop) ++ be 4 ks.length ++ be 4 enm.data.toList.length ++ enm.data.toList ++ valB ev ++ ks.flatMap (putX d)) = l ++ be 8 (w64 eop) ++ be 4 ks.length ++ be 4 enm.data.toList.length ++ enm.data.toList ++ valB ev ++ ks.flatMap (putX d) := by simp only [List.append_assoc]
    rw [hlz]
    have hln : (l ++ be 8 (w64 eop) ++ be 4 ks.length ++ be 4 enm.data.toList.length ++ enm.data.toList ++ valB ev).length + (ks.flatMap (putX d)).length ≤ 60000 := by simp only [List.length_append, be_length]; omega
    clear hlz hlen hlen' q1 q2 q3 q4
    generalize l ++ be 8 (w64 eop) ++ be 4 ks.length ++ be 4 enm.data.toList.length ++ enm.data.toList ++ valB ev = hdl at *
    generalize l ++ be 8 (w64 eop) ++ be 4 ks.length ++ be 4 enm.data.toList.length ++ enm.data.toList = l3 at *
    generalize l ++ be 8 (w64 eop) ++ be 4 ks.length = l2 at *
    generalize l ++ be 8 (w64 eop) = l1 at *
    have HIH := Lib.hid (fun (j : Nat) (hj : j < ks.length) A' c' v l W (hx : ExK w D A' c' ks[j]) (hB' : Below w.heap.size w W) (hv : Bs W v l) (hl : l.length + (putX d (ks[j]'hj)).length ≤ 60000) => ih d ks[j] A' c' v l W (hx.below hB' (Nat.le_refl _)) (hdp _ (List.getElem_mem hj)) (t4 _ (List.getElem_mem hj)) (okk _ (List.getElem_mem hj)) hv hl)
    have H5 := Lib.hid h5
    have HTP := Lib.hid (take_put d ks)
    have HTL := Lib.hid (take_put_le d ks)
    have HKD := Lib.hid (Kid_new w eop A ks.length c enm ev)
    have hk3 : ks.length ≤ 9223372036854775807 := by omega
    have HW0 := Lib.hid (alloc1 w (bxX eop A ks.length c enm ev))
    have HLN := Lib.hid hln
    clear ih h5 h2 h3 h4 t1 t2 t3 t4 okn okk hdp hvl hv hln
    go_enter Tryz.func49, Tryz.ntmps49
    obtain ⟨k0, k1, k2, k3, k4, k5, k6, k7⟩ := HKD.out
    go_wp2_with fail
    refine (Q1.out _ HW0.out).mono ?_
    rintro _ wA ⟨v1, rfl, ho1, hbA⟩
    have HB1 := Lib.hid (bel2 HW0.out hbA)
    have HV1 := Lib.hid (own_nilrow (w' := wA) ho1)
    have HK1 := Lib.hid (HKD.out.below hbA)
    clear k0 k1 k2 k3 k4 k5 k6 k7 hbA ho1
    obtain ⟨k0, k1, k2, k3, k4, k5, k6, k7⟩ := HK1.out
    go_wp2_with fail
    refine (Q2.out _ _ HV1.out).mono ?_
    rintro _ wB ⟨v2, rfl, ho2, hbB⟩
    have HB2 := Lib.hid (bel2 HB1.out hbB)
    have HV2 := Lib.hid (own_nilrow (w' := wB) ho2)
    have HK2 := Lib.hid (HK1.out.below hbB)
    clear k0 k1 k2 k3 k4 k5 k6 k7 hbB ho2
    obtain ⟨k0, k1, k2, k3, k4, k5, k6, k7⟩ := HK2.out
    go_wp2_with fail
    refine (Q3.out _ _ _ (Rd.below HV2.out (bytesWorld_below _ _ _) (Nat.le_refl _)) (HBW.out _)).mono ?_
    rintro _ wC ⟨v3, rfl, ho3, hbC⟩
    have HB3 := Lib.hid (bel2 (bel2 HB2.out (bytesWorld_below _ _ _)) hbC)
    have HV3 := Lib.hid (own_nilrow (w' := wC) ho3)
    have HK3 := Lib.hid ((HK2.out.below (bytesWorld_below _ _ _)).below hbC)
    clear k0 k1 k2 k3 k4 k5 k6 k7 hbC ho3
    obtain ⟨k0, k1, k2, k3, k4, k5, k6, k7⟩ := HK3.out
    go_wp2_with fail
    refine (Q4.out _ _ HV3.out).mono ?_
    rintro _ wD ⟨v4, B4, rfl, hB4, ho4, hbD⟩
    have HB4 := Lib.hid (bel2 HB3.out hbD)
    have HO4 := Lib.hid (show PutsV w hdl (.returned v4) wD from ⟨_, B4, rfl, Nat.le_trans HB3.out.size hB4, ho4, HB4.out⟩)
    have HK4 := Lib.hid (HK3.out.below hbD)
    clear k0 k1 k2 k3 k4 k5 k6 k7 hbD ho4 hB4
    obtain ⟨k0, k1, k2, k3, k4, k5, k6, k7⟩ := HK4.out
    go_wp2
    go_loopw [0, 5] (fun v i wr => ∃ k : Nat, k ≤ ks.length ∧ i = .int .i64 k ∧ PutsV w (hdl ++ (ks.take k).flatMap (putX d)) (.returned v) wr ∧ CellsX wr w.heap.size eop A ks.length c enm ev) (fun _ i _ => ks.length - (intOf i).toNat)
    case atStart => exact ⟨0, Nat.zero_le _, rfl, by rw [List.take_zero, List.flatMap_nil, List.append_nil]; exact HO4.out, HK4.out⟩
    case round =>
      clear k0 k1 k2 k3 k4 k5 k6 k7
      obtain ⟨k, hk, rfl, ho, hcx⟩ := hrel
      have HO := Lib.hid ho
      have HCX := Lib.hid hcx
      obtain ⟨-, k1, -⟩ := hcx
      obtain ⟨z, Bz, ez, hBz, hoz, hbz⟩ := ho
      injection ez with ez
      subst ez
      have HOZ := Lib.hid hoz
      have HBZ := Lib.hid hbz
      by_cases hlt : k < ks.length
      · obtain ⟨ad, A', c', rfl, hbl, hkid2, hsub⟩ := H5.out k hlt
        obtain ⟨q0, q1, q2, q3, q4, q5, q6, q7⟩ := hkid2.below hbz (by rw [block_add]; exact hbl)
        have hln : (hdl ++ (ks.take k).flatMap (putX d)).length + (putX d ks[k]).length ≤ 60000 := by
          have h1 := HTL.out (k + 1)
          rw [HTP.out k hlt, List.length_append] at h1
          have h2 := HLN.out
          simp only [List.length_append] at h2 ⊢
          omega
        have hcall := HIH.out k hlt A' c' _ _ wr hsub hbz (Rd.of_own hoz) hln
        have hltI : (k : Int) < (ks.length : Int) := by omega
        have HTK := Lib.hid (HTP.out k hlt)
        generalize putX d ks[k] = pk at hcall HTK
        generalize ks[k].op = ko at q0 hcall
        generalize ks[k].name = kn at q2 hcall
        generalize ks[k].val = ky at q3 q4 q5 q6 q7 hcall
        generalize ks[k].kids.length = kl at q1 hcall
        have HC := Lib.hid hcall
        clear hcall hkid2 hsub hln hoz hbz hBz
        go_wp2_with (go_at_call 49; refine HC.out.mono ?_; rintro e w2 ⟨v2, B2, rfl, hB2, ho2, hb2⟩)
        go_roundw
        case rel => exact ⟨k + 1, by omega, by go_num, ⟨_, B2, rfl, Nat.le_trans HBZ.out.size hB2, by rw [HTK.out, ← List.append_assoc]; exact ho2, bel2 HBZ.out hb2⟩, HCX.out.below hb2⟩
        case measure => simp [intOf]; omega
      · obtain rfl : k = ks.length := by omega
        have hltI : ¬ (ks.length : Int) < (ks.length : Int) := by omega
        clear hoz hbz hBz
        go_wp2
        go_ret
        have h := HO.out
        rw [List.take_length] at h
        exact h
set_option maxHeartbeats 1000000 in
/-- the document's Put -/
theorem rePut_any (D : Nat) (e : Ex) (A : Option Addr) (c : Nat) (v : Value) (l : List UInt8) (w : World) (hx : ExK w D A c e) (htx : smallX e = true → txtX 6 e) (hok : okX 6 e) (hv : Bs w v l) (hl : l.length ≤ 5000) :
    Calls Tryz.prog 18 #[v, agX e.op A e.kids.length c e.name e.val] w (PutsV w (l ++ putE e)) := by
  obtain ⟨i0, hi, hz0, hz1, hz2⟩ := info_parts u8info
  have hle := putE_le e htx
  have q2 : ∀ W, Below w.heap.size w W → Calls Tryz.prog 11 #[agX e.op A e.kids.length c e.name e.val] W (VMk (.bool (smallX e)) W) := fun W hb => rSmall_any D e A c W (hx.below hb (Nat.le_refl _))
  have q3 : smallX e = true → ∀ W, Below w.heap.size w W → Calls Tryz.prog 49 #[v, agX e.op A e.kids.length c e.name e.val] W (PutsV W (l ++ putE e)) := fun hs W h2 => by
    have hp : putE e = putX 6 e := if_pos hs
    rw [hp] at hle ⊢
    exact rput_any D 6 e A c v l W (hx.below h2 (Nat.le_refl _)) ((smallX_iff e).1 hs).1 (htx hs) hok (Rd.below hv h2 (Nat.le_refl _)) (by omega)
  have hno : smallX e = false → putE e = [] := fun h => if_neg (by rw [h]; decide)
  have HK := Lib.hid (Kid_new w e.op A e.kids.length c e.name e.val)
  have HW := Lib.hid (alloc1 w (bxX e.op A e.kids.length c e.name e.val))
  generalize putE e = pe at *
  have HNO := Lib.hid hno
  have HV := Lib.hid hv
  clear hx htx hok hv hle hno
  generalize smallX e = sm at *
  have Q2 := Lib.hid q2
  have Q3 := Lib.hid q3
  clear q2 q3
  generalize e.kids.length = n at *
  generalize e.op = eop at *
  generalize e.name = enm at *
  generalize e.val = ev at *
  rcases sm with _ | _
  · have hp := HNO.out rfl
    subst hp
    go_enter Tryz.func18, Tryz.ntmps18
    obtain ⟨k0, k1, k2, k3, k4, k5, k6, k7⟩ := HK.out
    go_wp2_with fail
    refine (Q2.out _ HW.out).mono ?_
    rintro _ w1 ⟨rfl, hb1⟩
    have HB1 := Lib.hid (bel2 HW.out hb1)
    clear k0 k1 k2 k3 k4 k5 k6 k7 hb1
    go_wp2_with (at_builtin; refine wpList_append_rd _ rfl _ _ 28 rfl w1.heap.size 5 i0 (.int .u8 0) 1 Tryz.underlying28 hi hz0 hz1 hz2 rfl _ _ _ rfl (own_empty _ _ _ _ (by simp) (by simp)) _ _ rfl (Rd.below HV.out (bel2 HB1.out (alloc1 _ _)) (Nat.le_refl _)) (bc_one l) (by simp; unfold maxLen; omega) (by simp; omega) (by simp) ?_; intro v2 w2 hown2 hg2)
    go_ret
    refine ⟨_, _, rfl, HB1.out.size, by simpa using hown2, ?_⟩
    exact (bel2 HB1.out (alloc1 _ _)).grown hg2 (by have := HB1.out.size; simp; omega) (by intro k h; injection h with h; simp only at h; have := HB1.out.size; omega)
  · go_enter Tryz.func18, Tryz.ntmps18
    obtain ⟨k0, k1, k2, k3, k4, k5, k6, k7⟩ := HK.out
    go_wp2_with fail
    refine (Q2.out _ HW.out).mono ?_
    rintro _ w1 ⟨rfl, hb1⟩
    have HB1 := Lib.hid (bel2 HW.out hb1)
    clear k0 k1 k2 k3 k4 k5 k6 k7
    obtain ⟨k0, k1, k2, k3, k4, k5, k6, k7⟩ := HK.out.below hb1
    clear hb1
    go_wp2_with fail
    refine (Q3.out (by trivial) _ HB1.out).mono ?_
    intro _ w3 h3
    have H3 := Lib.hid h3
    obtain ⟨v3, B3, rfl, -⟩ := h3
    go_wp2
    go_ret
    exact H3.out.to HB1.out
end Go.Proofs.YtkhpgejammgolaaGreat

/- Layer 5: rows of structs that are copied behind one another. -/
namespace Go.Proofs.YtkhpgejammgolaaGreat
open Go.RowKit
set_option linter.unusedVariables false
set_option linter.unusedSimpArgs false
set_option maxRecDepth 20000

/-- the slice value y holds m elements of so many cells: news -/
def RowS (w : World) (size : Nat) (y : Value) (m : Nat) (news : List Value) : Prop :=
  ∃ A c, y = .slice A m c ∧ news.length = m * size ∧ (A = none → m = 0 ∧ c = 0) ∧ ∀ a, A = some a → ∀ j u, news[j]? = some u → w.cell? (a.add j) = some u
theorem RowS.below {w w' : World} {size : Nat} {y : Value} {m : Nat} {news : List Value} (h : RowS w size y m news) (hb : Below w.heap.size w w') : RowS w' size y m news := by
  obtain ⟨A, c, e, h1, h2, h3⟩ := h
  refine ⟨A, c, e, h1, h2, fun a ha j u hj => ?_⟩
  have h4 := h3 a ha j u hj
  have hl := World.block_lt_of_cell? w _ h4
  exact (hb.cell hl).trans h4
section
variable {P : Program} {w : World}
theorem run_append_rows (base : Nat) (t ty e : TypeId) (i : TypeInfo) (z : Value) (size bytes : Nat) (ht : P.underlying t = some (.slice e)) (hi : P.info? e = some i) (hz : i.zero = some z)
    (hsize : i.size = size) (hby : i.bytes = bytes) (hzs : z.cells.size = size) (hpos : 0 < size)
    (v : Value) (n : Nat) (xs : List Value) (hown : w.ownsRow base e size v n xs)
    (y : Value) (m : Nat) (news : List Value) (hr : RowS w size y m news) (h1 : ∀ u ∈ news, u.oneCell' = true)
    (h63 : n + m ≤ maxLen) (hbytes : (n + m) * bytes ≤ 140737488355328) (hbase : base ≤ w.heap.size) :
    ∃ v' w', (Builtin.append_ #[t, t] ty #[v, y]).run P w = .ok v' w' ∧ w'.ownsRow base e size v' (n + m) (xs ++ news) ∧ w.grownBy w' v.ownBlock ∧
      (v'.ownBlock = v.ownBlock ∨ v'.ownBlock = some w.heap.size) := by
  obtain ⟨A, c, rfl, hl, hn, hx⟩ := hr
  rcases A with _ | ad
  · obtain ⟨rfl, rfl⟩ := hn rfl
    have : news = [] := List.eq_nil_of_length_eq_zero (by omega)
    subst this
    exact ⟨v, w, run_append_nothing w base t ty e i size ht hi v n xs hown 0, by simpa using hown, World.grownBy.refl w _, .inl rfl⟩
  · obtain ⟨v', w', hrun, h2, h3, _, h5⟩ := run_append_own_at (P := P) w base t ty e i z size bytes ht hi hz hsize hby hzs hpos v n xs hown ad m c news hl (hx ad rfl) h1 h63 hbytes hbase
    exact ⟨v', w', hrun, h2, h3, h5⟩
end
/-- a field's, a value's cells -/
structure Fx8 where
  f : Fd
  A : Option Addr
  n : Nat
  c : Nat
  y : Vl
def Fx8.cells (q : Fx8) : List Value := [.string q.f.name, .int .i64 q.f.kind, .slice q.A q.n q.c, .int .i64 q.y.k, .int .i64 q.y.i, .bool q.y.b, .string q.y.s, .float .f64 q.y.n]
theorem flat_len {α : Type} (f : α → List Value) (s : Nat) (hf : ∀ x, (f x).length = s) : ∀ l : List α, (l.flatMap f).length = l.length * s
  | [] => by simp
  | x :: l => by rw [List.flatMap_cons, List.length_append, hf, flat_len f s hf l, List.length_cons, Nat.add_mul]; omega
theorem flat_get {α : Type} (f : α → List Value) (s : Nat) (hf : ∀ x, (f x).length = s) : ∀ (l : List α) (j o : Nat) (hj : j < l.length), o < s → (l.flatMap f)[j * s + o]? = (f l[j])[o]?
  | [], j, o, hj, _ => absurd hj (Nat.not_lt_zero _)
  | x :: l, 0, o, _, ho => by rw [List.flatMap_cons, Nat.zero_mul, Nat.zero_add, List.getElem?_append_left (by rw [hf]; exact ho), List.getElem_cons_zero]
  | x :: l, j + 1, o, hj, ho => by
    rw [List.flatMap_cons, List.getElem?_append_right (by rw [hf, Nat.add_mul]; omega), hf, List.getElem_cons_succ, show (j + 1) * s + o - s = j * s + o by rw [Nat.add_mul]; omega]
    exact flat_get f s hf l j o (by simpa using hj) ho
end Go.Proofs.YtkhpgejammgolaaGreat

/- Layer 5: rows of fields, of values as what is copied. -/
namespace Go.Proofs.YtkhpgejammgolaaGreat
open Go.RowKit
set_option linter.unusedVariables false
set_option linter.unusedSimpArgs false
set_option maxRecDepth 20000

instance : Inhabited Fd := ⟨⟨⟨#[]⟩, 0⟩⟩
/-- one of them in a new block -/
theorem rows_one (w : World) (cs : List Value) (e : TypeId) (size : Nat) (h : cs.length = size) : RowS (w.alloc (.cells cs.toArray e)) size (.slice (some ⟨w.heap.size, 0, none⟩) 1 1) 1 cs := by
  have hn := heap_alloc_new w (.cells cs.toArray e)
  refine ⟨_, 1, rfl, by omega, fun h => (by cases h), fun a ha j u hj => ?_⟩
  injection ha with ha
  subst ha
  rw [Addr.add_lit, Nat.zero_add, cell_of_row _ _ _ _ _ (0, 0) hn]
  simpa using hj
end Go.Proofs.YtkhpgejammgolaaGreat

/- Layer 5: expressions that are read: kids in new memory; what is read is bounded. -/
namespace Go.Proofs.YtkhpgejammgolaaGreat
open Go.RowKit
set_option linter.unusedVariables false
set_option linter.unusedSimpArgs false
set_option maxRecDepth 20000

/-- e's kids lie in the row (A, .., c), in blocks of S, and so on -/
def ExS (S : Nat → Prop) (w : World) : Nat → Option Addr → Nat → Ex → Prop
  | 0, _, _, _ => False
  | d + 1, A, c, e => e.kids.length ≤ c ∧ c ≤ maxLen ∧ (A = none → c = 0) ∧ ∀ j (hj : j < e.kids.length), ∃ ad A' c', A = some ad ∧ ad.block < w.heap.size ∧ S ad.block ∧ Kid w (ad.add (j * 8)) e.kids[j].op A' e.kids[j].kids.length c' e.kids[j].name e.kids[j].val ∧ ExS S w d A' c' e.kids[j]
theorem ExS.exk {S : Nat → Prop} {w : World} : ∀ {d : Nat} {A : Option Addr} {c : Nat} {e : Ex}, ExS S w d A c e → ExK w d A c e
  | 0, _, _, _, h => False.elim h
  | d + 1, A, c, e, h => by
    obtain ⟨h1, h2, h3, h4⟩ := h
    refine ⟨h1, h2, h3, fun j hj => ?_⟩
    obtain ⟨ad, A', c', e1, e2, -, e3, e4⟩ := h4 j hj
    exact ⟨ad, A', c', e1, e2, e3, ExS.exk e4⟩
theorem Kid.at {w w' : World} {p : Addr} {op : Int} {A : Option Addr} {n c : Nat} {nm : ByteArray} {y : Vl} (h : Kid w p op A n c nm y) (hb : w'.heap[p.block]? = w.heap[p.block]?) : Kid w' p op A n c nm y := by
  obtain ⟨h0, h1, h2, h3, h4, h5, h6, h7⟩ := h
  have k : ∀ o, w'.cell? ⟨p.block, o, none⟩ = w.cell? ⟨p.block, o, none⟩ := fun o => World.cell?_of_block (a := ⟨p.block, o, none⟩) hb
  exact ⟨(World.cell?_of_block hb).trans h0, (k _).trans h1, (k _).trans h2, (k _).trans h3, (k _).trans h4, (k _).trans h5, (k _).trans h6, (k _).trans h7⟩
theorem ExS.move {S T : Nat → Prop} {w w' : World} (h : ∀ b, S b → b < w.heap.size → w'.heap[b]? = w.heap[b]? ∧ T b) (hz : w.heap.size ≤ w'.heap.size) : ∀ {d : Nat} {A : Option Addr} {c : Nat} {e : Ex}, ExS S w d A c e → ExS T w' d A c e
  | 0, _, _, _, h => False.elim h
  | d + 1, A, c, e, hx => by
    obtain ⟨h1, h2, h3, h4⟩ := hx
    refine ⟨h1, h2, h3, fun j hj => ?_⟩
    obtain ⟨ad, A', c', e1, e2, e5, e3, e4⟩ := h4 j hj
    obtain ⟨f1, f2⟩ := h _ e5 e2
    exact ⟨ad, A', c', e1, Nat.lt_of_lt_of_le e2 hz, f2, e3.at (by rw [block_add]; exact f1), ExS.move h hz e4⟩
theorem ExS.leaf (S : Nat → Prop) (w : World) (d : Nat) (e : Ex) (h : e.kids = []) : ExS S w (d + 1) none 0 e := by
  refine ⟨by rw [h]; exact Nat.le_refl _, Nat.zero_le _, fun _ => rfl, fun j hj => ?_⟩
  rw [h] at hj; exact absurd hj (Nat.not_lt_zero _)
/-- a kid that was read, where its own kids lie -/
structure Kx where
  e : Ex
  A : Option Addr
  c : Nat
def Kx.cells (q : Kx) : List Value := [.int .i64 q.e.op, .slice q.A q.e.kids.length q.c, .string q.e.name, .int .i64 q.e.val.k, .int .i64 q.e.val.i, .bool q.e.val.b, .string q.e.val.s, .float .f64 q.e.val.n]
theorem kx_one (qs : List Kx) : ∀ u ∈ qs.flatMap Kx.cells, u.oneCell' = true := by
  intro u hu
  obtain ⟨q, -, hu⟩ := List.mem_flatMap.1 hu
  simp only [Kx.cells, List.mem_cons, List.not_mem_nil, or_false] at hu
  rcases hu with rfl | rfl | rfl | rfl | rfl | rfl | rfl | rfl <;> rfl
/-- an own row of kids -/
theorem exs_own {S T : Nat → Prop} {w : World} {base : Nat} {v : Value} {n d : Nat} {qs : List Kx} (h : w.ownsRow base 27 8 v n (qs.flatMap Kx.cells)) (hk : ∀ q ∈ qs, ExS S w d q.A q.c q.e) (hST : ∀ b, S b → T b) (hT : ∀ b, base ≤ b → T b) (op : Int) (nm : ByteArray) (y : Vl) :
    ∃ A c, v = .slice A (qs.map Kx.e).length c ∧ ExS T w (d + 1) A c (.mk op nm y (qs.map Kx.e)) := by
  have hl := h.1
  rw [flat_len Kx.cells 8 (fun _ => rfl)] at hl
  have hn : n = qs.length := by omega
  subst hn
  rcases h.2 with ⟨rfl, h0⟩ | ⟨g, cap, cur, rfl, hbase, hg, hc, hm, hcs, ht⟩
  · have : qs = [] := List.eq_nil_of_length_eq_zero h0
    subst this
    exact ⟨none, 0, rfl, ExS.leaf _ _ _ _ rfl⟩
  · refine ⟨some ⟨g, 0, none⟩, cap, by rw [List.length_map], ?_, hm, fun h => (by cases h), fun j hj => ?_⟩
    · show (qs.map Kx.e).length ≤ cap
      rw [List.length_map]; exact hc
    have hjl : j < qs.length := by simpa [Ex.kids] using hj
    have hat : ∀ o, o < 8 → w.cell? ⟨g, j * 8 + o, none⟩ = (qs[j].cells)[o]? := fun o ho => by
      rw [cell_of_row w g _ _ _ (0, 0) hg, ← flat_get Kx.cells 8 (fun _ => rfl) qs j o hjl ho, ← ht, List.getElem?_take, if_pos (by omega), Array.getElem?_toList]
    have hge : (Ex.mk op nm y (qs.map Kx.e)).kids[j] = qs[j].e := by simp [Ex.kids]
    rw [hge]
    refine ⟨⟨g, 0, none⟩, qs[j].A, qs[j].c, rfl, (Array.getElem?_eq_some_iff.1 hg).1, hT g hbase, ?_, (hk _ (List.getElem_mem hjl)).move (fun b hb _ => ⟨rfl, hST b hb⟩) (Nat.le_refl _)⟩
    rw [Addr.add_lit, Nat.zero_add]
    exact ⟨hat 0 (by omega), hat 1 (by omega), hat 2 (by omega), hat 3 (by omega), hat 4 (by omega), hat 5 (by omega), hat 6 (by omega), hat 7 (by omega)⟩

/-- all blocks but two are as they were; new ones may be there -/
structure Twb (g s : Nat) (w w' : World) : Prop where
  os : w'.os = w.os
  tape : w'.tape = w.tape
  output : w'.output = w.output
  size : w.heap.size ≤ w'.heap.size
  block : ∀ k, k < w.heap.size → k ≠ g → k ≠ s → w'.heap[k]? = w.heap[k]?
theorem Twb.refl (g s : Nat) (w : World) : Twb g s w w := ⟨rfl, rfl, rfl, Nat.le_refl _, fun _ _ _ _ => rfl⟩
theorem Twb.trans {g s : Nat} {a b c : World} (h : Twb g s a b) (k : Twb g s b c) : Twb g s a c :=
  ⟨k.os.trans h.os, k.tape.trans h.tape, k.output.trans h.output, Nat.le_trans h.size k.size, fun i hi h1 h2 => (k.block i (Nat.lt_of_lt_of_le hi h.size) h1 h2).trans (h.block i hi h1 h2)⟩
theorem Only.two {g : Nat} {w w' : World} (h : Only g w w') (s : Nat) : Twb g s w w' := ⟨h.os, h.tape, h.output, h.size, fun k hk h1 _ => h.block k hk (by intro e; injection e with e; exact h1 e)⟩
theorem Only.two' {s : Nat} {w w' : World} (h : Only s w w') (g : Nat) : Twb g s w w' := ⟨h.os, h.tape, h.output, h.size, fun k hk _ h1 => h.block k hk (by intro e; injection e with e; exact h1 e)⟩
theorem Below.two {w w' : World} (h : Below w.heap.size w w') (g s : Nat) : Twb g s w w' := ⟨h.os, h.tape, h.output, h.size, fun k hk _ _ => h.block k hk⟩
theorem Twb.below {g s B : Nat} {w w' : World} (h : Twb g s w w') (hB : B ≤ w.heap.size) (hg : B ≤ g) (hs : B ≤ s) : Below B w w' := ⟨h.os, h.tape, h.output, h.size, fun k hk => h.block k (by omega) (by omega) (by omega)⟩
theorem Twb.only {g s : Nat} {w w' : World} (h : Twb g s w w') (hs : w.heap.size ≤ s) : Only g w w' := ⟨h.os, h.tape, h.output, h.size, fun k hk h1 => h.block k hk (by intro e; exact h1 (by rw [e])) (by omega)⟩
/-- a store into a block that is new -/
theorem Twb.setNew {g s k : Nat} {a w : World} (h : Twb g s a w) (hk : a.heap.size ≤ k) (j : Nat) (u : Value) : Twb g s a (w.setCell ⟨k, j, none⟩ u) :=
  ⟨h.os, h.tape, h.output, by simpa [World.setCell] using h.size, fun m hm h1 h2 => (Below.heap_setCell w _ u m (by intro e; simp only at e; omega)).trans (h.block m hm h1 h2)⟩

/-! what is read, by definition -/
theorem stepF_len (k : Nat) (al : Int → Int) (rest : List UInt8) (e : Int) : (stepF k al rest e).2.1.length ≤ rest.length := by
  unfold stepF
  split
  · exact Nat.le_refl _
  split
  · exact Nat.le_refl _
  split
  · exact Nat.le_refl _
  · simp
theorem bytesF_len (most : Int) (rest : List UInt8) (e : Int) : (bytesF most rest e).2.1.length ≤ rest.length := by
  have h := stepF_len 4 (alBytes most rest) rest e
  unfold bytesF
  split
  · exact h
  · simp only [List.length_drop]
    omega
theorem readF_len (rest : List UInt8) (e : Int) : (readF rest e).2.1.length ≤ rest.length := by
  have h1 := stepF_len 8 alInt rest e
  unfold readF
  split
  · exact Nat.le_trans (stepF_len 8 alInt _ _) h1
  split
  · exact Nat.le_trans (stepF_len 1 alBool _ _) h1
  split
  · exact Nat.le_trans (bytesF_len 32 _ _) h1
  split
  · exact Nat.le_trans (stepF_len 8 alNum _ _) h1
  · exact h1
/-- a value or the zero one, behind an error, too -/
def rvF (rest : List UInt8) (e : Int) : Vl × List UInt8 × Int := if e = 0 then zeroF rest else (vZero, rest, e)
theorem rvF_0 (rest : List UInt8) : rvF rest 0 = zeroF rest := if_pos rfl
theorem zeroF_no (rest : List UInt8) (h : ¬ (wrap64 ((stepF 8 alInt rest 0).1 : Int) = 0 ∧ (stepF 8 alInt rest 0).2.2 = 0)) : zeroF rest = (getV rest 0, (readF rest 0).2.1, getE rest 0) := if_neg h
theorem zeroF_yes (rest : List UInt8) (h : (wrap64 ((stepF 8 alInt rest 0).1 : Int) = 0 ∧ (stepF 8 alInt rest 0).2.2 = 0)) : zeroF rest = (vZero, (stepF 8 alInt rest 0).2.1, 0) := if_pos h
theorem mid_eq {α β γ : Type} {x : α × β × γ} {a : α} {b : β} {c : γ} (h : x = (a, b, c)) : x.2.1 = b := by subst h; rfl
theorem zeroF_len (rest : List UInt8) : (zeroF rest).2.1.length ≤ rest.length := by
  by_cases h : (wrap64 ((stepF 8 alInt rest 0).1 : Int) = 0 ∧ (stepF 8 alInt rest 0).2.2 = 0)
  · have e := mid_eq (zeroF_yes rest h)
    rw [e]; exact stepF_len 8 alInt rest 0
  · have e := mid_eq (zeroF_no rest h)
    rw [e]; exact readF_len rest 0
theorem rvF_len (rest : List UInt8) (e : Int) : (rvF rest e).2.1.length ≤ rest.length := by
  by_cases he : e = 0
  · subst he
    rw [rvF_0]
    exact zeroF_len rest
  · rw [show rvF rest e = (vZero, rest, e) from if_neg he]
    exact Nat.le_refl _
theorem rvF_err (rest : List UInt8) (e : Int) (he : e ≠ 0) : rvF rest e = (vZero, rest, e) := if_neg he
theorem headX_bd {rest r4 : List UInt8} {o : Int} {c : Nat} {m : ByteArray} {v : Vl} (h : headX rest = .ok (o, c, m, v, r4)) : r4.length ≤ rest.length := by
  unfold headX at h
  split at h
  · cases h
  split at h
  · cases h
  · injection h with h
    simp only [Prod.mk.injEq] at h
    rw [← h.2.2.2.2]
    exact Nat.le_trans (zeroF_len _) (Nat.le_trans (bytesF_len 16 _ _) (Nat.le_trans (stepF_len 4 _ _ _) (stepF_len 8 alInt rest 0)))
theorem headX_er {rest : List UInt8} {e : Int} (h : headX rest = .error e) : e ≠ 0 := by
  unfold headX at h
  split at h
  · rename_i h1
    injection h with h
    rw [← h]; exact h1
  split at h
  · rename_i h1 h2
    injection h with h
    rw [← h]; exact h2
  · cases h
theorem getL_bd {f : Int → List UInt8 → Except Int (Ex × Int × List UInt8)} (hf : ∀ n r k n' r', 0 ≤ n → f n r = .ok (k, n', r') → 0 ≤ n' ∧ n' ≤ n ∧ r'.length ≤ r.length) :
    ∀ (c : Nat) (n : Int) (r : List UInt8) (ks : List Ex) (n' : Int) (r' : List UInt8), 0 ≤ n → getL f c n r = .ok (ks, n', r') → 0 ≤ n' ∧ n' ≤ n ∧ r'.length ≤ r.length
  | 0, n, r, ks, n', r', h0, h => by
    unfold getL at h
    injection h with h
    simp only [Prod.mk.injEq] at h
    obtain ⟨-, rfl, rfl⟩ := h
    exact ⟨h0, Int.le_refl _, Nat.le_refl _⟩
  | c + 1, n, r, ks, n', r', h0, h => by
    unfold getL at h
    rcases h1 : f n r with er | ⟨k, n1, r1⟩
    · rw [h1] at h; cases h
    · rw [h1] at h
      dsimp only at h
      rcases h2 : getL f c n1 r1 with er | ⟨ks', n2, r2⟩
      · rw [h2] at h; cases h
      · rw [h2] at h
        dsimp only at h
        injection h with h
        simp only [Prod.mk.injEq] at h
        obtain ⟨-, rfl, rfl⟩ := h
        obtain ⟨a1, a2, a3⟩ := hf n r k n1 r1 h0 h1
        obtain ⟨b1, b2, b3⟩ := getL_bd hf c n1 r1 ks' _ _ a1 h2
        exact ⟨b1, by omega, by omega⟩
theorem getL_er {f : Int → List UInt8 → Except Int (Ex × Int × List UInt8)} (hf : ∀ n r e, f n r = .error e → e ≠ 0) :
    ∀ (c : Nat) (n : Int) (r : List UInt8) (e : Int), getL f c n r = .error e → e ≠ 0
  | 0, n, r, e, h => by unfold getL at h; cases h
  | c + 1, n, r, e, h => by
    unfold getL at h
    rcases h1 : f n r with er | ⟨k, n1, r1⟩
    · rw [h1] at h
      dsimp only at h
      injection h with h
      rw [← h]; exact hf n r er h1
    · rw [h1] at h
      dsimp only at h
      rcases h2 : getL f c n1 r1 with er | ⟨ks', n2, r2⟩
      · rw [h2] at h
        dsimp only at h
        injection h with h
        rw [← h]; exact getL_er hf c n1 r1 er h2
      · rw [h2] at h; cases h
theorem getX_bd : ∀ (d : Nat) (n : Int) (r : List UInt8) (k : Ex) (n' : Int) (r' : List UInt8), 0 ≤ n → getX d n r = .ok (k, n', r') → 0 ≤ n' ∧ n' ≤ n ∧ r'.length ≤ r.length
  | 0, n, r, k, n', r', _, h => by unfold getX getXH at h; cases h
  | d + 1, n, r, k, n', r', h0, h => by
    unfold getX at h
    rw [getXH] at h
    by_cases hn : n < 1
    · rw [if_pos hn] at h; cases h
    rw [if_neg hn] at h
    rcases h1 : headX r with er | ⟨o, c, m, v, r4⟩
    · rw [h1] at h; cases h
    · rw [h1] at h
      dsimp only at h
      rcases h2 : getL (getXH headX d) c (n - 1) r4 with er | ⟨ks, n2, r2⟩
      · rw [h2] at h; cases h
      · rw [h2] at h
        dsimp only at h
        injection h with h
        simp only [Prod.mk.injEq] at h
        obtain ⟨-, rfl, rfl⟩ := h
        obtain ⟨b1, b2, b3⟩ := getL_bd (getX_bd d) c (n - 1) r4 ks _ _ (by omega) h2
        have := headX_bd h1
        exact ⟨b1, by omega, by omega⟩
theorem getX_er : ∀ (d : Nat) (n : Int) (r : List UInt8) (e : Int), getX d n r = .error e → e ≠ 0
  | 0, n, r, e, h => by unfold getX getXH at h; injection h with h; omega
  | d + 1, n, r, e, h => by
    unfold getX at h
    rw [getXH] at h
    by_cases hn : n < 1
    · rw [if_pos hn] at h; injection h with h; omega
    rw [if_neg hn] at h
    rcases h1 : headX r with er | ⟨o, c, m, v, r4⟩
    · rw [h1] at h
      dsimp only at h
      injection h with h
      rw [← h]; exact headX_er h1
    · rw [h1] at h
      dsimp only at h
      rcases h2 : getL (getXH headX d) c (n - 1) r4 with er | ⟨ks, n2, r2⟩
      · rw [h2] at h
        dsimp only at h
        injection h with h
        rw [← h]; exact getL_er (getX_er d) c (n - 1) r4 er h2
      · rw [h2] at h; cases h
/-- what was read ahead, and what is read -/
def pre (l : List Ex) (x : Except Int (List Ex × Int × List UInt8)) : Except Int (List Ex × Int × List UInt8) := match x with
  | .error e => .error e
  | .ok (ks, n, r) => .ok (l ++ ks, n, r)
theorem pre_nil (x : Except Int (List Ex × Int × List UInt8)) : pre [] x = x := by
  rcases x with e | ⟨ks, n, r⟩ <;> rfl
theorem pre_ok {f : Int → List UInt8 → Except Int (Ex × Int × List UInt8)} {l : List Ex} {c : Nat} {n n1 : Int} {r r1 : List UInt8} {k : Ex} (h : f n r = .ok (k, n1, r1)) : pre l (getL f (c + 1) n r) = pre (l ++ [k]) (getL f c n1 r1) := by
  rw [getL, h]
  dsimp only
  rcases getL f c n1 r1 with e | ⟨ks, n2, r2⟩
  · rfl
  · simp [pre]
theorem pre_no {f : Int → List UInt8 → Except Int (Ex × Int × List UInt8)} {l : List Ex} {c : Nat} {n : Int} {r : List UInt8} {e : Int} (h : f n r = .error e) : pre l (getL f (c + 1) n r) = .error e := by
  rw [getL, h]
  rfl
theorem pre_end {f : Int → List UInt8 → Except Int (Ex × Int × List UInt8)} {l : List Ex} {n : Int} {r : List UInt8} : pre l (getL f 0 n r) = .ok (l, n, r) := by
  rw [getL]
  simp [pre]
end Go.Proofs.YtkhpgejammgolaaGreat

/- Layer 5: are two expressions the same, by the document. -/
namespace Go.Proofs.YtkhpgejammgolaaGreat
open Go.RowKit
set_option linter.unusedVariables false
set_option linter.unusedSimpArgs false
set_option maxRecDepth 20000

theorem sameL_len (f : Ex → Ex → Bool) : ∀ (la lb : List Ex), la.length ≠ lb.length → sameL f la lb = false
  | [], [], h => absurd rfl h
  | [], b :: lb, _ => rfl
  | a :: la, [], _ => rfl
  | a :: la, b :: lb, h => by
    rw [sameL, sameL_len f la lb (by intro e; apply h; simp [e]), Bool.and_false]
theorem sameL_drop (f : Ex → Ex → Bool) (la lb : List Ex) (k : Nat) (ha : k < la.length) (hb : k < lb.length) : sameL f (la.drop k) (lb.drop k) = (f la[k] lb[k] && sameL f (la.drop (k + 1)) (lb.drop (k + 1))) := by
  rw [List.drop_eq_getElem_cons ha, List.drop_eq_getElem_cons hb, sameL]
theorem sameX_succ (d : Nat) (a b : Ex) : sameX (d + 1) a b = (a.op == b.op && (a.name.toList == b.name.toList) && sameV a.val b.val && sameL (sameX d) a.kids b.kids) := rfl
theorem sameV_rf (v : Vl) : sameV v v = true := by
  unfold sameV
  simp
theorem sameL_refl (f : Ex → Ex → Bool) : ∀ l : List Ex, (∀ e ∈ l, f e e = true) → sameL f l l = true
  | [], _ => rfl
  | a :: l, h => by
    rw [sameL, h a (List.mem_cons_self ..), sameL_refl f l fun e he => h e (List.mem_cons_of_mem _ he)]
    rfl
theorem sameX_refl : ∀ (d : Nat) (e : Ex), sameX d e e = true
  | 0, e => rfl
  | d + 1, e => by
    rw [sameX_succ, sameV_rf, sameL_refl (sameX d) e.kids fun x _ => sameX_refl d x]
    simp
theorem CellsX.drew {W : World} {b : Nat} {op : Int} {A : Option Addr} {n c : Nat} {nm : ByteArray} {y : Vl} (h : CellsX W b op A n c nm y) : CellsX W.drew b op A n c nm y := h

set_option maxHeartbeats 8000000 in
theorem rSameX_any : ∀ (D D' d : Nat) (a b : Ex) (A B : Option Addr) (ca cb : Nat) (w : World), ExK w D A ca a → ExK w D' B cb b → deepX d a →
    Calls Tryz.prog 19 #[agX a.op A a.kids.length ca a.name a.val, agX b.op B b.kids.length cb b.name b.val] w (VMk (.bool (sameX d a b)) w)
  | 0, _, _, _, _, _, _, _, _, _, h, _, _ => False.elim h
  | D + 1, 0, _, _, _, _, _, _, _, _, _, h, _ => False.elim h
  | D + 1, D' + 1, 0, _, _, _, _, _, _, _, _, _, h => False.elim h
  | D + 1, D' + 1, d + 1, a, b, A, B, ca, cb, w, hxa, hxb, hdp => by
    obtain ⟨a2, a3, a4, a5⟩ := hxa
    obtain ⟨b2, b3, b4, b5⟩ := hxb
    have ih := rSameX_any D D' d
    replace hdp : ∀ k ∈ a.kids, deepX d k := hdp
    unfold maxLen at a3 b3
    have hla : a.kids.length ≤ 9223372036854775807 := by omega
    have hlb : b.kids.length ≤ 9223372036854775807 := by omega
    have hlen := sameL_len (sameX d) a.kids b.kids
    have hdr := sameL_drop (sameX d) a.kids b.kids
    rw [sameX_succ]
    have hsv : ∀ W, Calls Tryz.prog 50 #[agV a.val, agV b.val] W (VMk (.bool (sameV a.val b.val)) W) := fun W => rSame_val a.val b.val W
    generalize sameV a.val b.val = sv at hsv ⊢
    have HSV := Lib.hid hsv
    have HIH := Lib.hid (fun (j : Nat) (ha : j < a.kids.length) (hb : j < b.kids.length) A' B' ca' cb' W (hx : ExK w D A' ca' a.kids[j]) (hy : ExK w D' B' cb' b.kids[j]) (hB : Below w.heap.size w W) => ih a.kids[j] b.kids[j] A' B' ca' cb' W (hx.below hB (Nat.le_refl _)) (hy.below hB (Nat.le_refl _)) (hdp _ (List.getElem_mem ha)))
    have HLEN := Lib.hid hlen
    have HDR := Lib.hid hdr
    have A5 := Lib.hid a5
    have B5 := Lib.hid b5
    clear ih hsv hlen hdr a5 b5 hdp a2 a3 a4 b2 b3 b4
    generalize a.kids = ka at *
    generalize b.kids = kb at *
    generalize a.op = aop at *
    generalize b.op = bop at *
    generalize a.name = an at *
    generalize b.name = bn at *
    generalize a.val = av at *
    generalize b.val = bv at *
    have hka := Kid_new w aop A ka.length ca an av
    have hkb := Kid_new (w.alloc (bxX aop A ka.length ca an av)) bop B kb.length cb bn bv
    rw [World.size_alloc] at hkb
    have HKA := Lib.hid (hka.below (alloc1 _ (bxX bop B kb.length cb bn bv)))
    have HKB := Lib.hid hkb
    have HW := Lib.hid (vbox2 w (bxX aop A ka.length ca an av) (bxX bop B kb.length cb bn bv))
    clear hka hkb
    rcases h1 : (aop == bop) with _ | _
    · rw [Bool.false_and, Bool.false_and, Bool.false_and]
      have h1b : (aop != bop) = true := by simp only [bne, h1]; rfl
      clear h1
      go_enter Tryz.func19, Tryz.ntmps19
      go_wp2
      go_ret
      exact ⟨rfl, HW.out⟩
    rw [Bool.true_and]
    have h1b : (aop != bop) = false := by simp only [bne, h1]; rfl
    clear h1
    rcases h2 : (an.toList == bn.toList) with _ | _
    · rw [Bool.false_and, Bool.false_and]
      have h2b : (an.toList != bn.toList) = true := by simp only [bne, h2]; rfl
      go_enter Tryz.func19, Tryz.ntmps19
      go_wp2
      go_ret
      exact ⟨rfl, HW.out⟩
    rw [Bool.true_and]
    have h2b : (an.toList != bn.toList) = false := by simp only [bne, h2]; rfl
    rcases sv with _ | _
    · rw [Bool.false_and]
      go_enter Tryz.func19, Tryz.ntmps19
      obtain ⟨x0, x1, x2, x3, x4, x5, x6, x7⟩ := HKA.out
      obtain ⟨y0, y1, y2, y3, y4, y5, y6, y7⟩ := HKB.out
      go_wp2_with (go_at_call 50; refine (HSV.out _).mono ?_; rintro _ w1 ⟨rfl, hb1⟩)
      go_ret
      exact ⟨rfl, bel2 HW.out hb1⟩
    rw [Bool.true_and]
    by_cases hl : ka.length = kb.length
    · have hlb : ((ka.length : Int) != (kb.length : Int)) = false := by simp [hl]
      have HL := Lib.hid hl
      clear hl
      go_enter Tryz.func19, Tryz.ntmps19
      obtain ⟨x0, x1, x2, x3, x4, x5, x6, x7⟩ := HKA.out
      obtain ⟨y0, y1, y2, y3, y4, y5, y6, y7⟩ := HKB.out
      go_wp2_with fail
      refine (HSV.out _).mono ?_
      rintro _ w1 ⟨rfl, hb1⟩
      have HB1 := Lib.hid (bel2 HW.out hb1)
      have HX1 := Lib.hid (HKA.out.below hb1)
      have HY1 := Lib.hid (HKB.out.below hb1)
      clear x0 x1 x2 x3 x4 x5 x6 x7 y0 y1 y2 y3 y4 y5 y6 y7 hb1
      have p1 := HX1.out.2.1
      have q1 := HY1.out.2.1
      go_wp2
      go_loopw [5] (fun i wr => ∃ k : Nat, k ≤ ka.length ∧ i = .int .i64 k ∧ sameL (sameX d) (ka.drop k) (kb.drop k) = sameL (sameX d) ka kb ∧ Below w.heap.size w wr ∧ wr.cell? ⟨w.heap.size, 1, none⟩ = some (.slice A ka.length ca) ∧ wr.cell? ⟨w.heap.size + 1, 1, none⟩ = some (.slice B kb.length cb)) (fun i _ => ka.length - (intOf i).toNat)
      case atStart => exact ⟨0, Nat.zero_le _, rfl, rfl, HB1.out, p1, q1⟩
      case round =>
        clear p1 q1
        obtain ⟨k, hk, rfl, hrem, hbr, p1, q1⟩ := hrel
        have HREM := Lib.hid hrem
        have HBR := Lib.hid hbr
        clear hrem
        by_cases hlt : k < ka.length
        · have hltb : k < kb.length := by have := HL.out; omega
          obtain ⟨ad, A', ca', rfl, hbl, hkid, hsub⟩ := A5.out k hlt
          obtain ⟨bd, B', cb', rfl, hbl2, hkid2, hsub2⟩ := B5.out k hltb
          have hka := hkid.below hbr (by rw [block_add]; exact hbl)
          have hkb := hkid2.below hbr (by rw [block_add]; exact hbl2)
          have hcall := fun W (hB : Below wr.heap.size wr W) => HIH.out k hlt hltb A' B' ca' cb' W hsub hsub2 (bel2 hbr hB)
          have hdr := HDR.out k hlt hltb
          rw [HREM.out] at hdr
          generalize sameX d ka[k] kb[k] = sx at hcall hdr
          generalize ka[k].op = ko at hka hcall
          generalize ka[k].name = kn at hka hcall
          generalize ka[k].val = ky at hka hcall
          generalize ka[k].kids.length = kl at hka hcall
          generalize kb[k].op = mo at hkb hcall
          generalize kb[k].name = mn at hkb hcall
          generalize kb[k].val = my at hkb hcall
          generalize kb[k].kids.length = ml at hkb hcall
          have HC := Lib.hid hcall
          have hall : ∀ W, Below wr.heap.size wr W → Below wr.heap.size wr W ∧ W.cell? ⟨w.heap.size, 1, none⟩ = some (.slice (some ad) ka.length ca) ∧ W.cell? ⟨w.heap.size + 1, 1, none⟩ = some (.slice (some bd) kb.length cb) ∧ Kid W (ad.add (k * 8)) ko A' kl ca' kn ky ∧ Kid W (bd.add (k * 8)) mo B' ml cb' mn my := fun W hB =>
            ⟨hB, keepc hB (World.block_lt_of_cell? wr _ p1) p1, keepc hB (World.block_lt_of_cell? wr _ q1) q1, hka.below hB (World.block_lt_of_cell? wr _ hka.1), hkb.below hB (World.block_lt_of_cell? wr _ hkb.1)⟩
          unfold Kid at hall
          have HALL := Lib.hid hall
          have hltI : (k : Int) < (ka.length : Int) := by omega
          have hltJ : (k : Int) < (kb.length : Int) := by omega
          have HDK := Lib.hid hdr
          have HS0 := Lib.hid (HALL.out wr.drew (Below.refl _ _).drew)
          clear hcall hdr hkid hsub hkid2 hsub2 hka hkb hall hbr p1 q1
          have p1 := (HALL.out wr (Below.refl _ _)).2.1
          rcases sx with _ | _
          all_goals
            go_upto_region 6 with fail
            clear p1
            go_region_held3 (fun W => Below wr.heap.size wr W ∧ W.cell? ⟨w.heap.size, 1, none⟩ = some (.slice (some ad) ka.length ca) ∧ W.cell? ⟨w.heap.size + 1, 1, none⟩ = some (.slice (some bd) kb.length cb) ∧ (W.cell? (ad.add (k * 8)) = some (.int .i64 ko) ∧ W.cell? ⟨(ad.add (k * 8)).block, (ad.add (k * 8)).off + 1, none⟩ = some (.slice A' kl ca') ∧ W.cell? ⟨(ad.add (k * 8)).block, (ad.add (k * 8)).off + 2, none⟩ = some (.string kn) ∧ W.cell? ⟨(ad.add (k * 8)).block, (ad.add (k * 8)).off + 3, none⟩ = some (.int .i64 ky.k) ∧ W.cell? ⟨(ad.add (k * 8)).block, (ad.add (k * 8)).off + 4, none⟩ = some (.int .i64 ky.i) ∧ W.cell? ⟨(ad.add (k * 8)).block, (ad.add (k * 8)).off + 5, none⟩ = some (.bool ky.b) ∧ W.cell? ⟨(ad.add (k * 8)).block, (ad.add (k * 8)).off + 6, none⟩ = some (.string ky.s) ∧ W.cell? ⟨(ad.add (k * 8)).block, (ad.add (k * 8)).off + 7, none⟩ = some (.float .f64 ky.n)) ∧ (W.cell? (bd.add (k * 8)) = some (.int .i64 mo) ∧ W.cell? ⟨(bd.add (k * 8)).block, (bd.add (k * 8)).off + 1, none⟩ = some (.slice B' ml cb') ∧ W.cell? ⟨(bd.add (k * 8)).block, (bd.add (k * 8)).off + 2, none⟩ = some (.string mn) ∧ W.cell? ⟨(bd.add (k * 8)).block, (bd.add (k * 8)).off + 3, none⟩ = some (.int .i64 my.k) ∧ W.cell? ⟨(bd.add (k * 8)).block, (bd.add (k * 8)).off + 4, none⟩ = some (.int .i64 my.i) ∧ W.cell? ⟨(bd.add (k * 8)).block, (bd.add (k * 8)).off + 5, none⟩ = some (.bool my.b) ∧ W.cell? ⟨(bd.add (k * 8)).block, (bd.add (k * 8)).off + 6, none⟩ = some (.string my.s) ∧ W.cell? ⟨(bd.add (k * 8)).block, (bd.add (k * 8)).off + 7, none⟩ = some (.float .f64 my.n))) (first | exact HS0.out | exact HALL.out _ hbA2) (first | (go_at_call 19; refine (HC.out _ (Below.refl _ _).drew).mono ?_; rintro _ wA ⟨rfl, hbA⟩; have hbA2 := bel2 (Below.refl wr.heap.size wr).drew hbA))
          · go_wp2
            go_ret
            exact ⟨ret_bool (by have := HDK.out; simpa using this.symm), bel2 HBR.out hbA2⟩
          · obtain ⟨-, p1, q1, -⟩ := HALL.out _ hbA2
            go_wp2
            go_roundw
            case rel => exact ⟨k + 1, by omega, by go_num, by have := HDK.out; simpa using this.symm, bel2 HBR.out hbA2, p1, q1⟩
            case measure => simp [intOf]; omega
        · obtain rfl : k = ka.length := by omega
          have hend : sameL (sameX d) ka kb = true := by
            have h := HREM.out
            rw [List.drop_length, HL.out, List.drop_length] at h
            exact h.symm
          have HEND := Lib.hid hend
          clear hend
          go_wp2
          go_ret
          exact ⟨ret_bool HEND.out.symm, HBR.out⟩
    · have hlb : ((ka.length : Int) != (kb.length : Int)) = true := by simp; omega
      rw [HLEN.out hl]
      clear hl
      go_enter Tryz.func19, Tryz.ntmps19
      obtain ⟨x0, x1, x2, x3, x4, x5, x6, x7⟩ := HKA.out
      obtain ⟨y0, y1, y2, y3, y4, y5, y6, y7⟩ := HKB.out
      go_wp2_with fail
      refine (HSV.out _).mono ?_
      rintro _ w1 ⟨rfl, hb1⟩
      have HB1 := Lib.hid (bel2 HW.out hb1)
      have p1 := (HKA.out.below hb1).2.1
      have q1 := (HKB.out.below hb1).2.1
      clear x0 x1 x2 x3 x4 x5 x6 x7 y0 y1 y2 y3 y4 y5 y6 y7 hb1
      go_wp2
      go_ret
      exact ⟨rfl, HB1.out⟩
end Go.Proofs.YtkhpgejammgolaaGreat

/- Layer 5: a value or the zero one, by the program. -/
namespace Go.Proofs.YtkhpgejammgolaaGreat
open Go.RowKit
set_option linter.unusedVariables false
set_option linter.unusedSimpArgs false
set_option maxRecDepth 20000

/-- a reader is as it was where another one has gone on -/
theorem RdR.offS {w w' : World} {N g : Nat} {rest r2 : List UInt8} {e e2 : Int} (h : RdR w g rest e) (hp : RdR w N r2 e2) (ho : Only N w w') (hne : g ≠ N) : RdR w' g rest e := by
  obtain ⟨cs, hN, hy⟩ := hp.cells
  have hgl := h.lt
  obtain ⟨rv, hh, hb⟩ := h
  exact ⟨rv, (ho.block g hgl (by intro e; injection e with e; exact hne e)).trans hh, ⟨hb.1.offC ho hN hy, hb.2.offC ho (fun hl => hb.1.not_in hN hy hl)⟩⟩
/-- a reader copied -/
theorem RdR.copy {W : World} {A : Option Addr} {n c : Nat} {rest : List UInt8} {e : Int} (h : Bt W (.slice A n c) rest) (a : Nat) (ha : a = W.heap.size) : RdR (W.alloc (.cells #[.slice A n c, .int .i64 e] 83)) a rest e := by
  subst ha
  exact ⟨_, heap_alloc_new _ _, Bt.below h ((Below.refl _ _).alloc (Nat.le_refl _) _) (Nat.le_refl _)⟩
/-- .. and copied back -/
theorem RdR.back {W : World} {g : Nat} {rest r1 : List UInt8} {e e1 : Int} {v : Value} (h : RdR W g rest e) (hv : Bt W v r1) : RdR ((W.setCell ⟨g, 0, none⟩ v).setCell ⟨g, 1, none⟩ (.int .i64 e1)) g r1 e1 := (h.setRest v hv).setErr e1

set_option maxHeartbeats 2000000 in
theorem readVal_yes (g : Nat) (rest : List UInt8) (e : Int) (n : Nat) (r1 : List UInt8) (hst : stepF 8 alInt rest e = (n, r1, 0)) (hz : wrap64 (n : Int) = 0) (w : World) (hr : RdR w g rest e) :
    Calls Tryz.prog 94 #[.pointer (some ⟨g, 0, none⟩)] w (GetP g vZero 0 r1 0 w) := by
  obtain ⟨A, c, hbt, -, -, -, hc0, hc1, hf, hgl⟩ := hr.open
  have HW0 := Lib.hid (alloc1 w (.cells #[.int .i64 0, .int .i64 0, .bool false, .string ⟨#[]⟩, .float .f64 0] 25))
  have HN0 := Lib.hid (heap_alloc_new w (.cells #[.int .i64 0, .int .i64 0, .bool false, .string ⟨#[]⟩, .float .f64 0] 25))
  have HCP := Lib.hid (RdR.copy (W := w.alloc (.cells #[.int .i64 0, .int .i64 0, .bool false, .string ⟨#[]⟩, .float .f64 0] 25)) (e := e) (Bt.below hbt HW0.out (Nat.le_refl _)) (w.heap.size + 1) (by simp))
  have q1 : ∀ W, RdR W (w.heap.size + 1) rest e → Calls Tryz.prog 91 #[.pointer (some ⟨w.heap.size + 1, 0, none⟩)] W (Did (w.heap.size + 1) (.int .i64 0) r1 0 W) := fun W h => by
    have h := Int_any (w.heap.size + 1) rest e W h
    rw [hst, hz] at h
    exact h
  have Q1 := Lib.hid q1
  have HR := Lib.hid hr
  have HG := Lib.hid hgl
  have hne : g ≠ w.heap.size + 1 := by omega
  have hne2 : w.heap.size ≠ g := by omega
  clear hst hz hr hbt q1
  have h00 : ((0 : Int) != 0) = false := rfl
  have hsf := fun (w : World) (a : Addr) (m : Mode) (b : Nat) => run_store Tryz.prog w a (.float .f64 b) m rfl
  go_enter Tryz.func94, Tryz.ntmps94
  go_wp2_with fail
  refine (Q1.out _ HCP.out).mono ?_
  rintro _ wA ⟨rfl, hra, hoa⟩
  have HRG := Lib.hid (RdR.offS ((HR.out.below HW0.out).below (alloc1 _ _)) HCP.out hoa hne)
  have HA := Lib.hid hra
  have HOA := Lib.hid (hoa.to_below (B := w.heap.size + 1) (by simp) (Nat.le_refl _))
  clear hc0 hc1 hf hgl hra hoa
  go_wp2_with fail
  refine (Err_any (w.heap.size + 1) r1 0 wA HA.out).mono ?_
  rintro _ w' ⟨rfl, rfl⟩
  obtain ⟨A1, c1, hbt1, -, -, -, hd0, hd1, -, -⟩ := HA.out.open
  obtain ⟨A2, c2, -, -, -, -, hg0, hg1, hgf, hgl⟩ := HRG.out.open
  have hN := (HOA.out.block w.heap.size (by omega)).trans (((alloc1 _ _).block w.heap.size (by simp)).trans HN0.out)
  have HBN := Lib.hid hN
  have hsz : w.heap.size < wA.heap.size := (Array.getElem?_eq_some_iff.1 hN).1
  have hv0 := (cell_of_row wA w.heap.size 0 _ _ (0, 0) hN).trans rfl
  have hv1 := (cell_of_row wA w.heap.size 1 _ _ (0, 0) hN).trans rfl
  have hv2 := (cell_of_row wA w.heap.size 2 _ _ (0, 0) hN).trans rfl
  have hv3 := (cell_of_row wA w.heap.size 3 _ _ (0, 0) hN).trans rfl
  have hv4 := (cell_of_row wA w.heap.size 4 _ _ (0, 0) hN).trans rfl
  have hvf : ∀ j, wA.frozen? ⟨w.heap.size, j, none⟩ = false := fun j => by
    have h := HBN.out
    simp [World.frozen?, h]
  clear hN
  have HBT := Lib.hid hbt1
  have HOG := Lib.hid (HOA.out.mono (by omega : w.heap.size ≤ w.heap.size + 1))
  clear hbt1
  go_wp2
  refine bodyPost_ret (v := pairVE vZero 0) (by simp [results, Tryz.results94, go_sem, hv0, hv1, hv2, hv3, hv4, hsz, hne2]) rfl ?_
  refine GetP.mk rfl (HRG.out.back HBT.out) ?_ HG.out (by rw [Below.heap_setCell _ _ _ _ hne2, Below.heap_setCell _ _ _ _ hne2]; exact HBN.out) _ _ _ _ _
  exact (((Only.refl g w).below ((HW0.out.trans ((alloc1 _ _).mono (by simp))).trans HOG.out)).set _ _).set _ _
set_option maxHeartbeats 2000000 in
theorem readVal_no1 (g : Nat) (rest : List UInt8) (e : Int) (n : Nat) (r1 : List UInt8) (e1 : Int) (hst : stepF 8 alInt rest e = (n, r1, e1)) (hz : wrap64 (n : Int) ≠ 0) (v : Vl) (er : Int) (rest2 : List UInt8) (err : Int) (w : World) (hr : RdR w g rest e)
    (hq : ∀ W, RdR W g rest e → Calls Tryz.prog 153 #[.pointer (some ⟨g, 0, none⟩)] W (GetP g v er rest2 err W)) :
    Calls Tryz.prog 94 #[.pointer (some ⟨g, 0, none⟩)] w (GetP g v er rest2 err w) := by
  obtain ⟨A, c, hbt, -, -, -, hc0, hc1, hf, hgl⟩ := hr.open
  have HW0 := Lib.hid (alloc1 w (.cells #[.int .i64 0, .int .i64 0, .bool false, .string ⟨#[]⟩, .float .f64 0] 25))
  have HN0 := Lib.hid (heap_alloc_new w (.cells #[.int .i64 0, .int .i64 0, .bool false, .string ⟨#[]⟩, .float .f64 0] 25))
  have HCP := Lib.hid (RdR.copy (W := w.alloc (.cells #[.int .i64 0, .int .i64 0, .bool false, .string ⟨#[]⟩, .float .f64 0] 25)) (e := e) (Bt.below hbt HW0.out (Nat.le_refl _)) (w.heap.size + 1) (by simp))
  have q1 : ∀ W, RdR W (w.heap.size + 1) rest e → Calls Tryz.prog 91 #[.pointer (some ⟨w.heap.size + 1, 0, none⟩)] W (Did (w.heap.size + 1) (.int .i64 (wrap64 (n : Int))) r1 e1 W) := fun W h => by
    have h := Int_any (w.heap.size + 1) rest e W h
    rw [hst] at h
    exact h
  have hzb : (wrap64 (n : Int) != 0) = true := by simpa using hz
  clear hz
  have Q1 := Lib.hid q1
  have HQ := Lib.hid hq
  have HR := Lib.hid hr
  have HG := Lib.hid hgl
  have hne : g ≠ w.heap.size + 1 := by omega
  have hne2 : w.heap.size ≠ g := by omega
  clear hst hr hbt q1 hq
  have hsf := fun (w : World) (a : Addr) (m : Mode) (b : Nat) => run_store Tryz.prog w a (.float .f64 b) m rfl
  go_enter Tryz.func94, Tryz.ntmps94
  go_wp2_with fail
  refine (Q1.out _ HCP.out).mono ?_
  rintro _ wA ⟨rfl, hra, hoa⟩
  have HRG := Lib.hid (RdR.offS ((HR.out.below HW0.out).below (alloc1 _ _)) HCP.out hoa hne)
  have HA := Lib.hid hra
  have HOA := Lib.hid (hoa.to_below (B := w.heap.size + 1) (by simp) (Nat.le_refl _))
  clear hc0 hc1 hf hgl hra hoa
  have hN := (HOA.out.block w.heap.size (by omega)).trans (((alloc1 _ _).block w.heap.size (by simp)).trans HN0.out)
  have HBN := Lib.hid hN
  have HSZ := Lib.hid (Array.getElem?_eq_some_iff.1 hN).1
  have HOG := Lib.hid ((HW0.out.trans ((alloc1 _ _).mono (by simp))).trans (HOA.out.mono (by omega : w.heap.size ≤ w.heap.size + 1)))
  clear hN
  go_wp2_with fail
  refine (HQ.out _ HRG.out).mono ?_
  rintro _ wB ⟨rfl, hrb, hob⟩
  have hN := (hob.block w.heap.size HSZ.out (by intro e; injection e with e; exact hne2 e)).trans HBN.out
  have HBM := Lib.hid hN
  have hsz : w.heap.size < wB.heap.size := (Array.getElem?_eq_some_iff.1 hN).1
  have hv0 := (cell_of_row wB w.heap.size 0 _ _ (0, 0) hN).trans rfl
  have hv1 := (cell_of_row wB w.heap.size 1 _ _ (0, 0) hN).trans rfl
  have hv2 := (cell_of_row wB w.heap.size 2 _ _ (0, 0) hN).trans rfl
  have hv3 := (cell_of_row wB w.heap.size 3 _ _ (0, 0) hN).trans rfl
  have hv4 := (cell_of_row wB w.heap.size 4 _ _ (0, 0) hN).trans rfl
  have hvf : ∀ j, wB.frozen? ⟨w.heap.size, j, none⟩ = false := fun j => by
    have h := HBM.out
    simp [World.frozen?, h]
  have HRB := Lib.hid hrb
  have HOB := Lib.hid (Only.trans' HOG.out hob)
  clear hN hrb hob
  go_wp2
  exact bodyPost_ret (v := pairVE v er) (by simp [results, Tryz.results94, go_sem, hv0, hv1, hv2, hv3, hv4, hsz]) rfl (GetP.mk rfl HRB.out HOB.out HG.out HBM.out _ _ _ _ _)

set_option maxHeartbeats 2000000 in
theorem readVal_no2 (g : Nat) (rest : List UInt8) (e : Int) (n : Nat) (r1 : List UInt8) (e1 : Int) (hst : stepF 8 alInt rest e = (n, r1, e1)) (hz : wrap64 (n : Int) = 0) (he : e1 ≠ 0) (v : Vl) (er : Int) (rest2 : List UInt8) (err : Int) (w : World) (hr : RdR w g rest e)
    (hq : ∀ W, RdR W g rest e → Calls Tryz.prog 153 #[.pointer (some ⟨g, 0, none⟩)] W (GetP g v er rest2 err W)) :
    Calls Tryz.prog 94 #[.pointer (some ⟨g, 0, none⟩)] w (GetP g v er rest2 err w) := by
  obtain ⟨A, c, hbt, -, -, -, hc0, hc1, hf, hgl⟩ := hr.open
  have HW0 := Lib.hid (alloc1 w (.cells #[.int .i64 0, .int .i64 0, .bool false, .string ⟨#[]⟩, .float .f64 0] 25))
  have HN0 := Lib.hid (heap_alloc_new w (.cells #[.int .i64 0, .int .i64 0, .bool false, .string ⟨#[]⟩, .float .f64 0] 25))
  have HCP := Lib.hid (RdR.copy (W := w.alloc (.cells #[.int .i64 0, .int .i64 0, .bool false, .string ⟨#[]⟩, .float .f64 0] 25)) (e := e) (Bt.below hbt HW0.out (Nat.le_refl _)) (w.heap.size + 1) (by simp))
  have q1 : ∀ W, RdR W (w.heap.size + 1) rest e → Calls Tryz.prog 91 #[.pointer (some ⟨w.heap.size + 1, 0, none⟩)] W (Did (w.heap.size + 1) (.int .i64 (wrap64 (n : Int))) r1 e1 W) := fun W h => by
    have h := Int_any (w.heap.size + 1) rest e W h
    rw [hst] at h
    exact h
  have hzb : (wrap64 (n : Int) != 0) = false := by simpa using hz
  have heb : (e1 != 0) = true := by simpa using he
  clear hz he
  have Q1 := Lib.hid q1
  have HQ := Lib.hid hq
  have HR := Lib.hid hr
  have HG := Lib.hid hgl
  have hne : g ≠ w.heap.size + 1 := by omega
  have hne2 : w.heap.size ≠ g := by omega
  clear hst hr hbt q1 hq
  have hsf := fun (w : World) (a : Addr) (m : Mode) (b : Nat) => run_store Tryz.prog w a (.float .f64 b) m rfl
  go_enter Tryz.func94, Tryz.ntmps94
  go_wp2_with fail
  refine (Q1.out _ HCP.out).mono ?_
  rintro _ wA ⟨rfl, hra, hoa⟩
  have HRG := Lib.hid (RdR.offS ((HR.out.below HW0.out).below (alloc1 _ _)) HCP.out hoa hne)
  have HA := Lib.hid hra
  have HOA := Lib.hid (hoa.to_below (B := w.heap.size + 1) (by simp) (Nat.le_refl _))
  clear hc0 hc1 hf hgl hra hoa
  go_wp2_with fail
  refine (Err_any (w.heap.size + 1) r1 e1 wA HA.out).mono ?_
  rintro _ w' ⟨rfl, rfl⟩
  have hN := (HOA.out.block w.heap.size (by omega)).trans (((alloc1 _ _).block w.heap.size (by simp)).trans HN0.out)
  have HBN := Lib.hid hN
  have HSZ := Lib.hid (Array.getElem?_eq_some_iff.1 hN).1
  have HOG := Lib.hid ((HW0.out.trans ((alloc1 _ _).mono (by simp))).trans (HOA.out.mono (by omega : w.heap.size ≤ w.heap.size + 1)))
  clear hN
  go_wp2_with fail
  refine (HQ.out _ HRG.out).mono ?_
  rintro _ wB ⟨rfl, hrb, hob⟩
  have hN := (hob.block w.heap.size HSZ.out (by intro e; injection e with e; exact hne2 e)).trans HBN.out
  have HBM := Lib.hid hN
  have hsz : w.heap.size < wB.heap.size := (Array.getElem?_eq_some_iff.1 hN).1
  have hv0 := (cell_of_row wB w.heap.size 0 _ _ (0, 0) hN).trans rfl
  have hv1 := (cell_of_row wB w.heap.size 1 _ _ (0, 0) hN).trans rfl
  have hv2 := (cell_of_row wB w.heap.size 2 _ _ (0, 0) hN).trans rfl
  have hv3 := (cell_of_row wB w.heap.size 3 _ _ (0, 0) hN).trans rfl
  have hv4 := (cell_of_row wB w.heap.size 4 _ _ (0, 0) hN).trans rfl
  have hvf : ∀ j, wB.frozen? ⟨w.heap.size, j, none⟩ = false := fun j => by
    have h := HBM.out
    simp [World.frozen?, h]
  have HRB := Lib.hid hrb
  have HOB := Lib.hid (Only.trans' HOG.out hob)
  clear hN hrb hob
  go_wp2
  exact bodyPost_ret (v := pairVE v er) (by simp [results, Tryz.results94, go_sem, hv0, hv1, hv2, hv3, hv4, hsz]) rfl (GetP.mk rfl HRB.out HOB.out HG.out HBM.out _ _ _ _ _)

theorem rv_get (rest : List UInt8) (e : Int) (n : Nat) (r1 : List UInt8) (e1 : Int) (hst : stepF 8 alInt rest e = (n, r1, e1)) (h : ¬ (wrap64 (n : Int) = 0 ∧ e1 = 0)) : rvF rest e = (getV rest e, (readF rest e).2.1, getE rest e) := by
  by_cases he : e = 0
  · subst he
    rw [rvF_0]
    refine zeroF_no rest ?_
    rw [hst]
    exact h
  · rw [rvF_err rest e he]
    have h1 : stepF 8 alInt rest e = (0, rest, e) := by unfold stepF; rw [if_pos he]
    have h2 : readF rest e = (vZero, rest, e) := readF_0 h1 (by unfold wrap64; omega) (by unfold wrap64; omega) (by unfold wrap64; omega) (by unfold wrap64; omega)
    obtain ⟨a1, a2, a3, -⟩ := get_no h2 he
    rw [a1, a2, a3]
theorem rv_zero (rest : List UInt8) (e : Int) (n : Nat) (r1 : List UInt8) (hst : stepF 8 alInt rest e = (n, r1, 0)) (h : wrap64 (n : Int) = 0) : rvF rest e = (vZero, r1, 0) := by
  by_cases he : e = 0
  · subst he
    rw [rvF_0]
    have h3 := zeroF_yes rest (by rw [hst]; exact ⟨h, rfl⟩)
    rw [hst] at h3
    exact h3
  · have h1 : stepF 8 alInt rest e = (0, rest, e) := by unfold stepF; rw [if_pos he]
    rw [h1] at hst
    injection hst with h4 h5
    injection h5 with h5 h6
    exact absurd h6 he
theorem getE_no (rest : List UInt8) (e : Int) (h0 : ¬ (readF rest e).2.2 = 0) : getE rest e = (readF rest e).2.2 := if_neg h0
theorem getE_ok (rest : List UInt8) (e : Int) (h : getE rest e = 0) : (readF rest e).2.2 = 0 := by
  by_cases h0 : (readF rest e).2.2 = 0
  · exact h0
  · exact (getE_no rest e h0).symm.trans h
/-- what readVal leaves -/
def RvP (g : Nat) (v : Vl) (er : Int) (rest : List UInt8) (w : World) (e : Ending) (w' : World) : Prop := e = .returned (pairVE v er) ∧ (∃ r' e', RdR w' g r' e' ∧ (er = 0 → r' = rest ∧ e' = 0)) ∧ Only g w w'
theorem RvP.of {g : Nat} {q : Vl × List UInt8 × Int} {v : Vl} {er : Int} {rest : List UInt8} {w : World} {e : Ending} {w' : World} (hq : q = (v, rest, er)) (h : RvP g v er rest w e w') : RvP g q.1 q.2.2 q.2.1 w e w' := by
  subst hq
  exact h
theorem GetP.rv {g : Nat} {v : Vl} {er : Int} {rest : List UInt8} {err : Int} {w : World} {e : Ending} {w' : World} (h : GetP g v er rest err w e w') (hok : er = 0 → err = 0) : RvP g v er rest w e w' := ⟨h.1, ⟨_, _, h.2.1, fun h0 => ⟨rfl, hok h0⟩⟩, h.2.2⟩
theorem readVal_any (g : Nat) (rest : List UInt8) (e : Int) (w : World) (hr : RdR w g rest e) (hlen : rest.length ≤ 1000000000000) :
    Calls Tryz.prog 94 #[.pointer (some ⟨g, 0, none⟩)] w (RvP g (rvF rest e).1 (rvF rest e).2.2 (rvF rest e).2.1 w) := by
  have hq : ∀ W, RdR W g rest e → Calls Tryz.prog 153 #[.pointer (some ⟨g, 0, none⟩)] W (GetP g (getV rest e) (getE rest e) (readF rest e).2.1 (readF rest e).2.2 W) := fun W h => Get_any g rest e W h hlen
  have hok := getE_ok rest e
  rcases hst : stepF 8 alInt rest e with ⟨n, r1, e1⟩
  by_cases h : wrap64 (n : Int) = 0 ∧ e1 = 0
  · obtain ⟨h1, h2⟩ := h
    subst h2
    exact (readVal_yes g rest e n r1 hst h1 w hr).mono fun _ _ h => RvP.of (rv_zero rest e n r1 hst h1) (h.rv fun _ => rfl)
  · by_cases h1 : wrap64 (n : Int) = 0
    · exact (readVal_no2 g rest e n r1 e1 hst h1 (fun h2 => h ⟨h1, h2⟩) _ _ _ _ w hr hq).mono fun _ _ k => RvP.of (rv_get rest e n r1 e1 hst h) (k.rv hok)
    · exact (readVal_no1 g rest e n r1 e1 hst h1 _ _ _ _ w hr hq).mono fun _ _ k => RvP.of (rv_get rest e n r1 e1 hst h) (k.rv hok)
end Go.Proofs.YtkhpgejammgolaaGreat

/- Layer 5: what stands between the steps of reading an expression. -/
namespace Go.Proofs.YtkhpgejammgolaaGreat
open Go.RowKit
set_option linter.unusedVariables false
set_option linter.unusedSimpArgs false
set_option maxRecDepth 20000

/-- bytes stay where blocks of bytes stay -/
theorem Bt.keep {w w' : World} {v : Value} {l : List UInt8} (h : Bt w v l) (hz : w.heap.size ≤ w'.heap.size) (hk : ∀ (k : Nat) (cs : Array Value) (fr : Nat × Nat), w.heap[k]? = some (Obj.cells cs 5 fr) → w'.heap[k]? = w.heap[k]?) : Bt w' v l := by
  obtain ⟨⟨A, c, hv, hc, hm, hn, hx⟩, hy⟩ := h
  by_cases hl : l = []
  · subst hl
    exact ⟨⟨A, c, hv, hc, hm, hn, fun he => absurd rfl he⟩, fun he => absurd rfl he⟩
  · have hl' : l.map bc ≠ [] := by simpa using hl
    obtain ⟨ad, ha, hb, hr⟩ := hx hl'
    have hown : v.ownBlock = some ad.block := by rw [hv, ha]; rfl
    obtain ⟨cs2, fr2, hty⟩ := hy hl ad.block hown
    have hblk := hk _ _ _ hty
    refine ⟨⟨A, c, hv, hc, hm, hn, fun _ => ⟨ad, ha, Nat.lt_of_lt_of_le hb hz, fun j u hu => ?_⟩⟩, fun _ k hkk => ?_⟩
    · have hb2 : (ad.add j).block = ad.block := block_add ad j
      exact (World.cell?_of_block (w := w) (w' := w') (a := ad.add j) (by rw [hb2]; exact hblk)).trans (hr j u hu)
    · rw [hown] at hkk
      injection hkk with hkk
      subst hkk
      exact ⟨cs2, fr2, hblk.trans hty⟩
theorem RdR.keep {w w' : World} {g : Nat} {rest : List UInt8} {e : Int} (h : RdR w g rest e) (hz : w.heap.size ≤ w'.heap.size) (hg : w'.heap[g]? = w.heap[g]?) (hk : ∀ (k : Nat) (cs : Array Value) (fr : Nat × Nat), w.heap[k]? = some (Obj.cells cs 5 fr) → w'.heap[k]? = w.heap[k]?) : RdR w' g rest e := by
  obtain ⟨rv, hh, hb⟩ := h
  exact ⟨rv, hg.trans hh, hb.keep hz hk⟩
/-- a block of another type is another block -/
theorem other_block {w : World} {k N : Nat} {cs cs' : Array Value} {t t' : TypeId} {fr fr' : Nat × Nat} (hk : w.heap[k]? = some (.cells cs t fr)) (hN : w.heap[N]? = some (.cells cs' t' fr')) (ht : t ≠ t') : k ≠ N := by
  rintro rfl
  rw [hN] at hk
  injection hk with hk
  injection hk with h1 h2
  exact ht h2.symm
theorem RdR.offT {w w' : World} {N g : Nat} {rest : List UInt8} {err : Int} {cs : Array Value} {t : TypeId} {fr : Nat × Nat} (h : RdR w g rest err) (ho : Only N w w') (hne : g ≠ N) (hN : w.heap[N]? = some (.cells cs t fr)) (ht : t ≠ 5) : RdR w' g rest err := by
  have hlt := h.lt
  refine h.keep ho.size (ho.block g hlt (by intro e; injection e with e; exact hne e)) fun k cs2 fr2 hk => ho.block k (Array.getElem?_eq_some_iff.1 hk).1 (by intro e; injection e with e; exact other_block hk hN (fun e => ht e.symm) e)

/-- the count of parts, as a block -/
def SzB (w : World) (s : Nat) (n : Int) : Prop := w.heap[s]? = some (.cells #[.int .i64 n] 87 (0, 0))
theorem SzB.sz {w : World} {s : Nat} {n : Int} (h : SzB w s n) : Sz w s n := by
  unfold SzB at h
  exact ⟨(cell_of_row w s 0 _ _ (0, 0) h).trans rfl, by simp [World.frozen?, h], (Array.getElem?_eq_some_iff.1 h).1⟩
theorem SzB.lt {w : World} {s : Nat} {n : Int} (h : SzB w s n) : s < w.heap.size := (Array.getElem?_eq_some_iff.1 h).1
theorem SzB.at {w w' : World} {s : Nat} {n : Int} (h : SzB w s n) (hb : w'.heap[s]? = w.heap[s]?) : SzB w' s n := hb.trans h
theorem SzB.set {w : World} {s : Nat} {n : Int} (h : SzB w s n) (m : Int) : SzB (w.setCell ⟨s, 0, none⟩ (.int .i64 m)) s m := by
  unfold SzB at h ⊢
  simp [World.setCell, Array.getElem?_modify, h]
theorem SzB.only {w w' : World} {s g : Nat} {n : Int} (h : SzB w s n) (ho : Only g w w') (hne : s ≠ g) : SzB w' s n := h.at (ho.block s h.lt (by intro e; injection e with e; exact hne e))
theorem SzB.below {w w' : World} {s : Nat} {n : Int} (h : SzB w s n) (hb : Below w.heap.size w w') : SzB w' s n := h.at (hb.block s h.lt)
theorem grow_set (g : Nat) (n deep : Int) (w : World) (h : Sz w g n) (h0 : 0 ≤ n) (h1 : n ≤ 24) : Calls Tryz.prog 90 #[.pointer (some ⟨g, 0, none⟩), .int .i64 deep] w fun e w' => e = .returned (.bool (decide (n + 1 ≤ 24) && decide (deep ≤ 6))) ∧ w' = w.setCell ⟨g, 0, none⟩ (.int .i64 (n + 1)) := by
  have hw : IntKind.i64.wrap (n + 1) = n + 1 := by rw [IntKind.wrap_i64]; omega
  have HSET := Lib.hid (World.cell?_setCell_same w ⟨g, 0, none⟩ (.int .i64 (n + 1)) h.1)
  obtain ⟨hc, hf, hl⟩ := h
  by_cases hn : n + 1 ≤ 24
  · have hr : (decide (n + 1 ≤ 24) && decide (deep ≤ 6)) = decide (deep ≤ 6) := by simp [hn]
    rw [hr]
    go_enter Tryz.func90, Tryz.ntmps90
    go_wp2
    go_ret
    exact ⟨rfl, rfl⟩
  · have hr : (decide (n + 1 ≤ 24) && decide (deep ≤ 6)) = false := by simp; intro h; omega
    rw [hr]
    go_enter Tryz.func90, Tryz.ntmps90
    go_wp2
    go_ret
    exact ⟨rfl, rfl⟩

def z8 : Array Value := #[.int .i64 0, .slice none 0 0, .string ⟨#[]⟩, .int .i64 0, .int .i64 0, .bool false, .string ⟨#[]⟩, .float .f64 0]
/-- all eight cells of a block -/
abbrev set8 (W : World) (b : Nat) (u0 u1 u2 u3 u4 u5 u6 u7 : Value) : World :=
  (((((((W.setCell ⟨b, 0, none⟩ u0).setCell ⟨b, 1, none⟩ u1).setCell ⟨b, 2, none⟩ u2).setCell ⟨b, 3, none⟩ u3).setCell ⟨b, 4, none⟩ u4).setCell ⟨b, 5, none⟩ u5).setCell ⟨b, 6, none⟩ u6).setCell ⟨b, 7, none⟩ u7
theorem set8_only (W : World) (b : Nat) (u0 u1 u2 u3 u4 u5 u6 u7 : Value) : Only b W (set8 W b u0 u1 u2 u3 u4 u5 u6 u7) :=
  ((((((((Only.refl b W).set 0 u0).set 1 u1).set 2 u2).set 3 u3).set 4 u4).set 5 u5).set 6 u6).set 7 u7
theorem Twb.new {g s k : Nat} {a w w' : World} (h : Twb g s a w) (ho : Only k w w') (hk : a.heap.size ≤ k) : Twb g s a w' :=
  ⟨ho.os.trans h.os, ho.tape.trans h.tape, ho.output.trans h.output, Nat.le_trans h.size ho.size, fun m hm h1 h2 => (ho.block m (Nat.lt_of_lt_of_le hm h.size) (by intro e; injection e with e; omega)).trans (h.block m hm h1 h2)⟩
theorem heap_at {w : World} {b : Nat} {cs : Array Value} {t : TypeId} (h : w.heap[b]? = some (.cells cs t (0, 0))) (j : Nat) : w.cell? ⟨b, j, none⟩ = cs[j]? := cell_of_row w b j _ _ (0, 0) h
theorem heap_free {w : World} {b : Nat} {cs : Array Value} {t : TypeId} (h : w.heap[b]? = some (.cells cs t (0, 0))) (j : Nat) : w.frozen? ⟨b, j, none⟩ = false := by simp [World.frozen?, h]

/-- an expression that was not read -/
abbrev agZ : Value := .agg #[.int .i64 0, .slice none 0 0, .string ⟨#[]⟩, .int .i64 0, .int .i64 0, .bool false, .string ⟨#[]⟩, .float .f64 0]
def RpE (g s : Nat) (er : Int) (w : World) (e : Ending) (w' : World) : Prop := e = .returned (.tuple #[agZ, .int .i64 er]) ∧ (∃ r' e', RdR w' g r' e') ∧ Twb g s w w'
def RpO (g s d : Nat) (x : Ex × Int × List UInt8) (w : World) (e : Ending) (w' : World) : Prop :=
  ∃ A c, e = .returned (.tuple #[agX x.1.op A x.1.kids.length c x.1.name x.1.val, .int .i64 0]) ∧ ExS (fun b => w.heap.size ≤ b) w' d A c x.1 ∧ RdR w' g x.2.2 0 ∧ SzB w' s (24 - x.2.1) ∧ Twb g s w w'
/-- what readParts leaves -/
def RpP (g s d : Nat) (x : Except Int (Ex × Int × List UInt8)) (w : World) (e : Ending) (w' : World) : Prop := match x with
  | .error er => RpE g s er w e w'
  | .ok y => RpO g s d y w e w'
theorem RpE.mk {g s b6 : Nat} {er e' : Int} {r' : List UInt8} {w W : World} {cs : Array Value} (hr : RdR W g r' e') (ht : Twb g s w W) (hz : W.heap[b6]? = some (.cells cs 27 (0, 0))) (hb : w.heap.size ≤ b6) (hg : g ≠ b6) (u0 u1 u2 u3 u4 u5 u6 u7 : Value) :
    RpE g s er w (.returned (.tuple #[agZ, .int .i64 er])) (set8 W b6 u0 u1 u2 u3 u4 u5 u6 u7) :=
  ⟨rfl, ⟨_, _, hr.offT (set8_only _ _ _ _ _ _ _ _ _ _) hg hz (by decide)⟩, ht.new (set8_only _ _ _ _ _ _ _ _ _ _) hb⟩
theorem RpO.mk {g s d b6 c : Nat} {n : Int} {r : List UInt8} {x : Ex} {A : Option Addr} {w W : World} {cs : Array Value} (hx : ExS (fun b => b6 < b) W d A c x) (hr : RdR W g r 0) (hs : SzB W s (24 - n)) (ht : Twb g s w W) (hz : W.heap[b6]? = some (.cells cs 27 (0, 0))) (hb : w.heap.size ≤ b6) (hg : g ≠ b6) (hsb : s ≠ b6) (u0 u1 u2 u3 u4 u5 u6 u7 : Value) :
    RpO g s d (x, n, r) w (.returned (.tuple #[agX x.op A x.kids.length c x.name x.val, .int .i64 0])) (set8 W b6 u0 u1 u2 u3 u4 u5 u6 u7) := by
  have ho := set8_only W b6 u0 u1 u2 u3 u4 u5 u6 u7
  exact ⟨A, c, rfl, hx.move (fun b hb2 hl => ⟨ho.block b hl (by intro e; injection e with e; omega), by omega⟩) ho.size, hr.offT ho hg hz (by decide), hs.only ho hsb, ht.new ho hb⟩

/-- between the steps: the result's block is empty, the part at hand lies at b8 -/
structure Fr (w : World) (g s b6 b8 : Nat) (W : World) (cs : Array Value) : Prop where
  z : W.heap[b6]? = some (.cells z8 27 (0, 0))
  x : W.heap[b8]? = some (.cells cs 27 (0, 0))
  t : Twb g s w W
theorem Fr.two {w : World} {g s b6 b8 : Nat} {W W' : World} {cs : Array Value} (h : Fr w g s b6 b8 W cs) (k : Twb g s W W') (h1 : b6 ≠ g) (h2 : b6 ≠ s) (h3 : b8 ≠ g) (h4 : b8 ≠ s) : Fr w g s b6 b8 W' cs :=
  ⟨(k.block b6 (Array.getElem?_eq_some_iff.1 h.z).1 h1 h2).trans h.z, (k.block b8 (Array.getElem?_eq_some_iff.1 h.x).1 h3 h4).trans h.x, h.t.trans k⟩
theorem Fr.set {w : World} {g s b6 b8 : Nat} {W : World} {cs : Array Value} (h : Fr w g s b6 b8 W cs) (h68 : b6 ≠ b8) (hb : w.heap.size ≤ b8) (j : Nat) (u : Value) : Fr w g s b6 b8 (W.setCell ⟨b8, j, none⟩ u) (cs.setIfInBounds j u) := by
  refine ⟨(Below.heap_setCell W _ u b6 h68).trans h.z, ?_, h.t.setNew hb j u⟩
  have hx := h.x
  simp [World.setCell, Array.getElem?_modify, hx]

/-- append of rows of structs, as a step of the walk -/
theorem wpList_append_rows {P : Program} {w : World} {ops : Array Oper} {rest : List Oper} {o : Oper} {a : Act} {Q : Exit → Act → World → Prop} (hgd : o.guard = none) (s x : Operand) (t : TypeId)
    (ho : o.op = .call { callee := .builtin .append, args := #[s, x], argTypes := #[t, t] })
    (base : Nat) (e : TypeId) (i : TypeInfo) (z : Value) (size bytes : Nat) (ht : P.underlying t = some (.slice e)) (hi : P.info? e = some i) (hz : i.zero = some z)
    (hsize : i.size = size) (hby : i.bytes = bytes) (hzs : z.cells.size = size) (hpos : 0 < size)
    (v : Value) (n : Nat) (xs : List Value) (hs : a.eval s = v) (hown : w.ownsRow base e size v n xs)
    (y : Value) (m : Nat) (news : List Value) (hx : a.eval x = y) (hr : RowS w size y m news) (h1 : ∀ u ∈ news, u.oneCell' = true)
    (h63 : n + m ≤ maxLen) (hbytes : (n + m) * bytes ≤ 140737488355328) (hbase : base ≤ w.heap.size)
    (h : ∀ v' w', w'.ownsRow base e size v' (n + m) (xs ++ news) → w.grownBy w' v.ownBlock → (v'.ownBlock = v.ownBlock ∨ v'.ownBlock = some w.heap.size) → wpList P ops Q rest (a.put o.dst v') w') : wpList P ops Q (o :: rest) a w :=
  wpList_plain hgd fun K hK => by
    obtain ⟨v', w', hrun, h2, h3, h4⟩ := run_append_rows (P := P) base t o.type e i z size bytes ht hi hz hsize hby hzs hpos v n xs hown y m news hr h1 h63 hbytes hbase
    unfold Oper.wp execOp
    simp only [ho, resolve, invoke, builtin, Sem.run_bind, Sem.run_pure, Result.andThen_ok, List.map_toArray, List.map_cons, List.map_nil, hs, hx, hrun]
    exact hK _ _ (h v' w' h2 h3 h4)

/-- what holds ahead of each kid -/
structure RpI (F : Int → List UInt8 → Except Int (Ex × Int × List UInt8)) (w : World) (g s b6 b8 d c : Nat) (L : Except Int (List Ex × Int × List UInt8)) (op : Int) (nm : ByteArray) (v : Vl) (wr : World) (k : Nat) (qs : List Kx) (nk : Int) (rk : List UInt8) (row : Value) : Prop where
  pre : pre (qs.map Kx.e) (getL F (c - k) nk rk) = L
  n0 : 0 ≤ nk
  n1 : nk ≤ 24
  len : rk.length ≤ 1000000000000
  rd : RdR wr g rk 0
  sz : SzB wr s (24 - nk)
  fr : Fr w g s b6 b8 wr #[.int .i64 op, row, .string nm, .int .i64 v.k, .int .i64 v.i, .bool v.b, .string v.s, .float .f64 v.n]
  own : wr.ownsRow (b8 + 1) 27 8 row k (qs.flatMap Kx.cells)
  kids : ∀ q ∈ qs, ExS (fun b => b8 < b ∧ row.ownBlock ≠ some b) wr d q.A q.c q.e
theorem RpI.next {F : Int → List UInt8 → Except Int (Ex × Int × List UInt8)} {w : World} {g s b6 b8 d c : Nat} {L : Except Int (List Ex × Int × List UInt8)} {op : Int} {nm : ByteArray} {v : Vl} {wr w2 w4 : World} {k : Nat} {qs : List Kx} {nk n1 : Int} {rk r1 : List UInt8} {row row' : Value} {kid : Ex} {A : Option Addr} {cc : Nat} {o1 o2 : Obj}
    (h : RpI F w g s b6 b8 d c L op nm v wr k qs nk rk row) (hk : k < c) (hx : F nk rk = .ok (kid, n1, r1)) (hbd : 0 ≤ n1 ∧ n1 ≤ nk ∧ r1.length ≤ rk.length) (hgw : g < w.heap.size) (hsw : s < w.heap.size) (h6 : w.heap.size ≤ b6) (h68 : b6 < b8)
    (hex : ExS (fun b => wr.heap.size ≤ b) w2 d A cc kid) (hrd : RdR w2 g r1 0) (hsz : SzB w2 s (24 - n1)) (htw : Twb g s wr w2)
    (hown : w4.ownsRow (b8 + 1) 27 8 row' (k + 1) (qs.flatMap Kx.cells ++ (Kx.mk kid A cc).cells)) (hgr : ((w2.alloc o1).alloc o2).grownBy w4 row.ownBlock) (hrow : row'.ownBlock = row.ownBlock ∨ row'.ownBlock = some ((w2.alloc o1).alloc o2).heap.size) :
    RpI F w g s b6 b8 d c L op nm v (w4.setCell ⟨b8, 1, none⟩ row') (k + 1) (qs ++ [Kx.mk kid A cc]) n1 r1 row' := by
  obtain ⟨b0, b1, b2⟩ := hbd
  have hb8 : b8 < wr.heap.size := (Array.getElem?_eq_some_iff.1 h.fr.x).1
  have hb6 : b6 < wr.heap.size := (Array.getElem?_eq_some_iff.1 h.fr.z).1
  have hz2 := htw.size
  have hz3 : ((w2.alloc o1).alloc o2).heap.size = w2.heap.size + 2 := by simp
  have hz4 := hgr.size
  have hrow0 := h.own.lt
  -- a block that is none of those that were written
  have hkeep : ∀ b, b < w2.heap.size → b ≠ b8 → row.ownBlock ≠ some b → (w4.setCell ⟨b8, 1, none⟩ row').heap[b]? = w2.heap[b]? := fun b h1 h2 h3 => by
    rw [Below.heap_setCell w4 _ _ b h2, hgr.block b (by omega) (fun e => h3 e.symm)]
    exact ((alloc1 (w2.alloc o1) o2).block b (by simp; omega)).trans ((alloc1 w2 o1).block b h1)
  have hsz5 : (w4.setCell ⟨b8, 1, none⟩ row').heap.size = w4.heap.size := by simp [World.setCell]
  have h8own : row.ownBlock ≠ some b8 := fun e => by have := (hrow0 b8 e).1; omega
  have hkx : w2.heap[b8]? = some (.cells #[.int .i64 op, row, .string nm, .int .i64 v.k, .int .i64 v.i, .bool v.b, .string v.s, .float .f64 v.n] 27 (0, 0)) := (htw.block b8 hb8 (by omega) (by omega)).trans h.fr.x
  have hlow : ∀ b, b < b8 → row.ownBlock ≠ some b := fun b hb e => by have := (hrow0 b e).1; omega
  have hrowT : ∀ (b : Nat) (cs : Array Value) (fr : Nat × Nat), w2.heap[b]? = some (Obj.cells cs 5 fr) → row.ownBlock ≠ some b := fun b cs fr hb e => by
    rcases h.own.2 with ⟨rfl, -⟩ | ⟨g', cap, cur, rfl, hbase, hg', -⟩
    · cases e
    · injection e with e
      have e : g' = b := e
      subst e
      have h5 := (htw.block g' (Array.getElem?_eq_some_iff.1 hg').1 (by omega) (by omega)).trans hg'
      exact other_block hb h5 (by decide) rfl
  refine ⟨?_, b0, by have := h.n1; omega, by have := h.len; omega, ?_, ?_, ⟨?_, ?_, ?_⟩, ?_, ?_⟩
  · rw [List.map_append, List.map_cons, List.map_nil, ← h.pre, show c - k = c - (k + 1) + 1 by omega]
    exact (pre_ok hx).symm
  · exact hrd.keep (by rw [hsz5]; omega) (hkeep g (by omega) (by omega) (hlow g (by omega))) fun b cs fr hb => hkeep b (Array.getElem?_eq_some_iff.1 hb).1 (other_block hb hkx (by decide)) (hrowT b cs fr hb)
  · exact hsz.at (hkeep s (by omega) (by omega) (hlow s (by omega)))
  · exact (hkeep b6 (by omega) (by omega) (hlow b6 h68)).trans ((htw.block b6 hb6 (by omega) (by omega)).trans h.fr.z)
  · have h5 : w4.heap[b8]? = w2.heap[b8]? := (hgr.block b8 (by omega) (fun e => h8own e.symm)).trans (((alloc1 (w2.alloc o1) o2).block b8 (by simp; omega)).trans ((alloc1 w2 o1).block b8 (by omega)))
    rw [hkx] at h5
    simp [World.setCell, Array.getElem?_modify, h5]
  · have hwz := h.fr.t.size
    refine ⟨?_, ?_, ?_, by rw [hsz5]; omega, fun m hm m1 m2 => ?_⟩
    · exact hgr.os.trans (htw.os.trans h.fr.t.os)
    · exact hgr.tape.trans (htw.tape.trans h.fr.t.tape)
    · exact hgr.output.trans (htw.output.trans h.fr.t.output)
    · exact (hkeep m (by omega) (by omega) (hlow m (by omega))).trans ((htw.block m (by omega) m1 m2).trans (h.fr.t.block m hm m1 m2))
  · rw [List.flatMap_append, List.flatMap_cons, List.flatMap_nil, List.append_nil]
    exact ownsRow_setCell_below hown (a := ⟨b8, 1, none⟩) (Nat.lt_succ_self b8) row'
  · intro q hq
    rcases List.mem_append.1 hq with hq | hq
    · refine (h.kids q hq).move (fun b hb hl => ?_) (by rw [hsz5]; omega)
      refine ⟨(hkeep b (by omega) (by omega) hb.2).trans (htw.block b hl (by omega) (by omega)), hb.1, ?_⟩
      rcases hrow with e | e
      · rw [e]; exact hb.2
      · rw [e]; intro e2; injection e2 with e2; omega
    · rw [List.mem_singleton.1 hq]
      refine hex.move (fun b hb hl => ?_) (by rw [hsz5]; omega)
      have hne : row.ownBlock ≠ some b := fun e => by have := (hrow0 b e).2; omega
      refine ⟨hkeep b hl (by omega) hne, by omega, ?_⟩
      rcases hrow with e | e
      · rw [e]; exact hne
      · rw [e]; intro e2; injection e2 with e2; omega
end Go.Proofs.YtkhpgejammgolaaGreat

/- Layer 5: reading an expression, by the program. -/
namespace Go.Proofs.YtkhpgejammgolaaGreat
open Go.RowKit
set_option linter.unusedVariables false
set_option linter.unusedSimpArgs false
set_option maxRecDepth 20000

theorem exprinfo : (Tryz.prog.info? 27).map (fun i => (i.zero, i.size, i.bytes)) = some (some agZ, 8, 96) := by kernel_rfl
theorem infoZ {P : Program} {e : TypeId} {z : Value} {s b : Nat} (h : (P.info? e).map (fun i => (i.zero, i.size, i.bytes)) = some (some z, s, b)) : ∃ i, P.info? e = some i ∧ i.zero = some z ∧ i.size = s ∧ i.bytes = b := by
  obtain ⟨i, hi, hzz⟩ := Option.map_eq_some_iff.1 h
  simp only [Prod.mk.injEq] at hzz
  exact ⟨i, hi, hzz.1, hzz.2.1, hzz.2.2⟩
theorem step4_le (al : Int → Int) (rest : List UInt8) (e : Int) : (stepF 4 al rest e).1 ≤ 4294967295 := by
  have h := wordN_lt4 (rest.take 4) (by rw [List.length_take]; omega)
  unfold stepF
  split
  · omega
  split
  · omega
  split
  · omega
  · exact h
/-- where there is no room -/
theorem getX_none {d : Nat} {n : Int} (h : d = 0 ∨ n < 1) (rest : List UInt8) : getX d n rest = .error 51 := by
  cases d with
  | zero => rfl
  | succ d =>
    rcases h with h | h
    · cases h
    · show getXH headX (d + 1) n rest = _
      rw [getXH, if_pos h]
set_option maxHeartbeats 4000000 in
theorem readParts_none (g s : Nat) (d : Nat) (n deep : Int) (rest : List UInt8) (w : World) (hgs : g ≠ s) (hd : d ≤ 6) (hdeep : deep = 7 - d) (h0 : 0 ≤ n) (h1 : n ≤ 24) (hr : RdR w g rest 0) (hs : SzB w s (24 - n)) (hbad : d = 0 ∨ n < 1) :
    Calls Tryz.prog 44 #[.pointer (some ⟨g, 0, none⟩), .pointer (some ⟨s, 0, none⟩), .int .i64 deep] w (RpE g s 51 w) := by
  have hz := hs.below (alloc1 w (.cells z8 27))
  have hgr := grow_set s (24 - n) deep _ hz.sz (by omega) (by omega)
  have hres : (decide (24 - n + 1 ≤ 24) && decide (deep ≤ 6)) = false := by
    rcases hbad with h | h
    · subst h; simp; omega
    · simp; omega
  rw [hres] at hgr
  have hgl := hr.lt
  have hsl := hs.lt
  have hX := heap_alloc_new w (.cells z8 27)
  have hset := hz.set (24 - n + 1)
  have hon : Only s (w.alloc (.cells z8 27)) ((w.alloc (.cells z8 27)).setCell ⟨s, 0, none⟩ (.int .i64 (24 - n + 1))) := (Only.refl _ _).set _ _
  have hrd : RdR ((w.alloc (.cells z8 27)).setCell ⟨s, 0, none⟩ (.int .i64 (24 - n + 1))) g rest 0 := (hr.below (alloc1 w (.cells z8 27))).offT hon hgs hz (by decide)
  have hX2 := (hon.block w.heap.size (by simp) (by intro e; injection e with e; omega)).trans hX
  have ht : Twb g s w ((w.alloc (.cells z8 27)).setCell ⟨s, 0, none⟩ (.int .i64 (24 - n + 1))) := (Below.two (alloc1 w (.cells z8 27)) g s).trans (hon.two' g)
  have hgb : g ≠ w.heap.size := by omega
  have HGR := Lib.hid hgr
  generalize (w.alloc (.cells z8 27)).setCell ⟨s, 0, none⟩ (.int .i64 (24 - n + 1)) = w2 at *
  have HRD := Lib.hid hrd
  have HT := Lib.hid ht
  have HX := Lib.hid hX2
  have hsz : w.heap.size < w2.heap.size := (Array.getElem?_eq_some_iff.1 hX2).1
  have hv0 := (heap_at hX2 0).trans (rfl : _ = some (Value.int .i64 0))
  have hv1 := (heap_at hX2 1).trans (rfl : _ = some (Value.slice none 0 0))
  have hv2 := (heap_at hX2 2).trans (rfl : _ = some (Value.string ⟨#[]⟩))
  have hv3 := (heap_at hX2 3).trans (rfl : _ = some (Value.int .i64 0))
  have hv4 := (heap_at hX2 4).trans (rfl : _ = some (Value.int .i64 0))
  have hv5 := (heap_at hX2 5).trans (rfl : _ = some (Value.bool false))
  have hv6 := (heap_at hX2 6).trans (rfl : _ = some (Value.string ⟨#[]⟩))
  have hv7 := (heap_at hX2 7).trans (rfl : _ = some (Value.float .f64 0))
  have hvf := heap_free hX2
  clear hr hs hgr hres hbad hz hset hon hrd hX hX2 ht hdeep hd h0 h1 hgl hsl
  have hsf := fun (w : World) (a : Addr) (m : Mode) (b : Nat) => run_store Tryz.prog w a (.float .f64 b) m rfl
  go_enter Tryz.func44, Tryz.ntmps44
  go_wp2_with fail
  refine HGR.out.mono ?_
  rintro _ w' ⟨rfl, rfl⟩
  go_wp2
  exact bodyPost_ret (v := .tuple #[agZ, .int .i64 51]) (by simp [results, Tryz.results44, go_sem, hv0, hv1, hv2, hv3, hv4, hv5, hv6, hv7, hsz]) rfl (RpE.mk HRD.out HT.out HX.out (Nat.le_refl _) hgb _ _ _ _ _ _ _ _)

theorem stepF_sticky {k : Nat} {al : Int → Int} {rest r1 : List UInt8} {e : Int} {n : Nat} (h : stepF k al rest e = (n, r1, 0)) : e = 0 := by
  by_cases he : e = 0
  · exact he
  · have h1 : stepF k al rest e = (0, rest, e) := by unfold stepF; rw [if_pos he]
    rw [h1] at h
    injection h with h2 h3
    injection h3 with h3 h4
theorem bytesF_sticky {most : Int} {rest r1 m : List UInt8} {e : Int} (h : bytesF most rest e = (m, r1, 0)) : e = 0 := by
  by_cases he : e = 0
  · exact he
  · have h1 : stepF 4 (alBytes most rest) rest e = (0, rest, e) := by unfold stepF; rw [if_pos he]
    unfold bytesF at h
    rw [h1, if_pos rfl] at h
    injection h with h2 h3
    injection h3 with h3 h4
theorem getX_head_err {d : Nat} {n : Int} {rest r1 r2 r3 r4 m : List UInt8} {o c : Nat} {e1 e2 e3 er : Int} {v : Vl} (hn : ¬ n < 1) (h1 : stepF 8 alInt rest 0 = (o, r1, e1)) (h2 : stepF 4 (alCount 3) r1 e1 = (c, r2, e2)) (h3 : bytesF 16 r2 e2 = (m, r3, e3)) (h4 : rvF r3 e3 = (v, r4, er)) (h : er ≠ 0) : getX (d + 1) n rest = .error er := by
  have hh : headX rest = .error er := by
    by_cases he : e3 = 0
    · subst he
      rw [rvF_0] at h4
      exact headX_no2 h1 h2 h3 h4 h
    · rw [rvF_err _ _ he] at h4
      injection h4 with h5 h6
      injection h6 with h6 h7
      subst h7
      exact headX_no1 h1 h2 h3 he
  show getXH headX (d + 1) n rest = _
  rw [getXH, if_neg hn, hh]
theorem getX_head_ok {d : Nat} {n : Int} {rest r1 r2 r3 r4 m : List UInt8} {o c : Nat} {e1 e2 e3 : Int} {v : Vl} (hn : ¬ n < 1) (h1 : stepF 8 alInt rest 0 = (o, r1, e1)) (h2 : stepF 4 (alCount 3) r1 e1 = (c, r2, e2)) (h3 : bytesF 16 r2 e2 = (m, r3, e3)) (h4 : rvF r3 e3 = (v, r4, 0)) :
    (∀ e, getL (getX d) c (n - 1) r4 = .error e → getX (d + 1) n rest = .error e) ∧ (∀ ks n' r, getL (getX d) c (n - 1) r4 = .ok (ks, n', r) → getX (d + 1) n rest = .ok (.mk (wrap64 (o : Int)) (strB m) v ks, n', r)) := by
  have he : e3 = 0 := by
    by_cases he : e3 = 0
    · exact he
    · rw [rvF_err _ _ he] at h4
      injection h4 with h5 h6
      injection h6 with h6 h7
  subst he
  have he2 := bytesF_sticky h3
  subst he2
  have he1 := stepF_sticky h2
  subst he1
  rw [rvF_0] at h4
  have hh := headX_ok h1 h2 h3 h4
  refine ⟨fun e h => ?_, fun ks n' r h => ?_⟩
  · show getXH headX (d + 1) n rest = _
    rw [getXH, if_neg hn, hh]
    dsimp only
    rw [show getL (getXH headX d) c (n - 1) r4 = .error e from h]
  · exact getX_ok hn hh h

theorem own_twb {w w' : World} {g s base e sz n : Nat} {v : Value} {xs : List Value} (h : w.ownsRow base e sz v n xs) (ht : Twb g s w w') (hg : g < base) (hs : s < base) : w'.ownsRow base e sz v n xs := by
  have hl := h.lt
  obtain ⟨h1, h2⟩ := h
  refine ⟨h1, ?_⟩
  rcases h2 with h2 | ⟨gb, cap, cur, e1, e2, e3, e4⟩
  · exact .inl h2
  · exact .inr ⟨gb, cap, cur, e1, e2, (ht.block gb (Array.getElem?_eq_some_iff.1 e3).1 (by omega) (by omega)).trans e3, e4⟩
theorem own_sliceX {w : World} {base e sz n : Nat} {v : Value} {xs : List Value} (h : w.ownsRow base e sz v n xs) : ∃ A c, v = .slice A n c := by
  rcases h.2 with ⟨rfl, h0⟩ | ⟨gb, cap, cur, e1, -⟩
  · have hn := h.1
    exact ⟨none, 0, by rw [h0]⟩
  · exact ⟨_, _, e1⟩
set_option maxHeartbeats 8000000 in
theorem readParts_walk (g s : Nat) (d : Nat) (n deep e0 : Int) (rest : List UInt8) (w : World) (hgs : g ≠ s) (hd : d + 1 ≤ 6) (hdeep : deep = 7 - ((d + 1 : Nat) : Int)) (h0 : 1 ≤ n) (h1 : n ≤ 24) (hr : RdR w g rest e0) (hs : SzB w s (24 - n)) (F : Int → List UInt8 → Except Int (Ex × Int × List UInt8)) (hbd : ∀ n r k n' r', 0 ≤ n → F n r = .ok (k, n', r') → 0 ≤ n' ∧ n' ≤ n ∧ r'.length ≤ r.length) (hfe : ∀ n r e, F n r = .error e → e ≠ 0) (X : Except Int (Ex × Int × List UInt8)) (op : Int) (c : Nat) (m : List UInt8) (v : Vl) (er e1 e2 e3 : Int) (r1 r2 r3 r4 : List UInt8)
    (ih : ∀ n rest w, 0 ≤ n → n ≤ 24 → RdR w g rest 0 → SzB w s (24 - n) → rest.length ≤ 1000000000000 → Calls Tryz.prog 44 #[.pointer (some ⟨g, 0, none⟩), .pointer (some ⟨s, 0, none⟩), .int .i64 (deep + 1)] w (RpP g s d (F n rest) w))
    (q1 : ∀ W, RdR W g rest e0 → Calls Tryz.prog 91 #[.pointer (some ⟨g, 0, none⟩)] W (Did g (.int .i64 op) r1 e1 W))
    (q2 : ∀ W, RdR W g r1 e1 → Calls Tryz.prog 92 #[.pointer (some ⟨g, 0, none⟩), .int .i64 3] W (Did g (.int .i64 c) r2 e2 W)) (hc4 : c ≤ 4294967295)
    (q3 : ∀ W, RdR W g r2 e2 → Calls Tryz.prog 93 #[.pointer (some ⟨g, 0, none⟩), .int .i64 16] W (DidB g m r3 e3 W))
    (q4 : ∀ W, RdR W g r3 e3 → Calls Tryz.prog 94 #[.pointer (some ⟨g, 0, none⟩)] W (RvP g v er r4 W)) (hlen4 : r4.length ≤ 1000000000000)
    (herr0 : er ≠ 0 → X = .error er) (hok0 : er = 0 → (∀ e, getL F c (n - 1) r4 = .error e → X = .error e) ∧ (∀ ks n' r, getL F c (n - 1) r4 = .ok (ks, n', r) → X = .ok (.mk op (strB m) v ks, n', r))) :
    Calls Tryz.prog 44 #[.pointer (some ⟨g, 0, none⟩), .pointer (some ⟨s, 0, none⟩), .int .i64 deep] w (RpP g s (d + 1) X w) := by
  have hz := hs.below (alloc1 w (.cells z8 27))
  have hgr := grow_set s (24 - n) deep _ hz.sz (by omega) (by omega)
  have hres : (decide (24 - n + 1 ≤ 24) && decide (deep ≤ 6)) = true := by
    simp; omega
  rw [hres] at hgr
  have hgl := hr.lt
  have hsl := hs.lt
  have hX := heap_alloc_new w (.cells z8 27)
  have hset := hz.set (24 - n + 1)
  have hon : Only s (w.alloc (.cells z8 27)) ((w.alloc (.cells z8 27)).setCell ⟨s, 0, none⟩ (.int .i64 (24 - n + 1))) := (Only.refl _ _).set _ _
  have hrd : RdR ((w.alloc (.cells z8 27)).setCell ⟨s, 0, none⟩ (.int .i64 (24 - n + 1))) g rest e0 := (hr.below (alloc1 w (.cells z8 27))).offT hon hgs hz (by decide)
  have hX2 := (hon.block w.heap.size (by simp) (by intro e; injection e with e; omega)).trans hX
  have ht : Twb g s w ((w.alloc (.cells z8 27)).setCell ⟨s, 0, none⟩ (.int .i64 (24 - n + 1))) := (Below.two (alloc1 w (.cells z8 27)) g s).trans (hon.two' g)
  have HGR := Lib.hid hgr
  generalize (w.alloc (.cells z8 27)).setCell ⟨s, 0, none⟩ (.int .i64 (24 - n + 1)) = w2 at *
  have hgb : g ≠ w.heap.size := by omega
  have hsb : s ≠ w.heap.size := by omega
  have herr := Lib.hid herr0
  have HOK := Lib.hid hok0
  have HBD := Lib.hid hbd
  have HFE := Lib.hid hfe
  clear herr0 hok0 hbd hfe hgr hX hres
  have Q1 := Lib.hid q1
  have Q2 := Lib.hid q2
  have Q3 := Lib.hid q3
  have Q4 := Lib.hid q4
  have IH := Lib.hid ih
  have HR2 := Lib.hid hrd
  have HS2 := Lib.hid (show SzB w2 s (24 - (n - 1)) from by rw [show 24 - (n - 1) = 24 - n + 1 by omega]; exact hset)
  have HT2 := Lib.hid ht
  have HX2 := Lib.hid hX2
  have HGL := Lib.hid hgl
  have HSL := Lib.hid hsl
  have H01 := Lib.hid (And.intro h0 h1)
  have H4 := Lib.hid hlen4
  have HD := Lib.hid (And.intro hd hdeep)
  have HC4 := Lib.hid hc4
  have hwd : IntKind.i64.wrap (deep + 1) = deep + 1 := by rw [IntKind.wrap_i64]; omega
  clear q1 q2 q3 q4 ih hrd hset ht hX2 hz hr hs hon h0 h1 hlen4 hd hdeep hc4
  have hsf := fun (w : World) (a : Addr) (m : Mode) (b : Nat) => run_store Tryz.prog w a (.float .f64 b) m rfl
  go_enter Tryz.func44, Tryz.ntmps44
  go_wp2_with fail
  refine HGR.out.mono ?_
  rintro _ w' ⟨rfl, rfl⟩
  clear HGR
  go_wp2_with fail
  refine (Q1.out _ HR2.out).mono ?_
  rintro _ w3 ⟨rfl, hr3, ho3⟩
  have hX3 := heap_alloc_new w3 (.cells #[.int .i64 op, .slice none 0 0, .string ⟨#[]⟩, .int .i64 0, .int .i64 0, .bool false, .string ⟨#[]⟩, .float .f64 0] 27)
  have hfr4 : Fr w g s w.heap.size w3.heap.size (w3.alloc (.cells #[.int .i64 op, .slice none 0 0, .string ⟨#[]⟩, .int .i64 0, .int .i64 0, .bool false, .string ⟨#[]⟩, .float .f64 0] 27)) #[.int .i64 op, .slice none 0 0, .string ⟨#[]⟩, .int .i64 0, .int .i64 0, .bool false, .string ⟨#[]⟩, .float .f64 0] := by
    have hz3 : w.heap.size < w3.heap.size := Nat.lt_of_lt_of_le (Array.getElem?_eq_some_iff.1 HX2.out).1 ho3.size
    refine ⟨?_, hX3, (HT2.out.trans (ho3.two s)).trans (Below.two (alloc1 _ _) g s)⟩
    exact ((alloc1 _ _).block w.heap.size hz3).trans ((ho3.block w.heap.size (Array.getElem?_eq_some_iff.1 HX2.out).1 (by intro e; injection e with e; exact hgb e.symm)).trans HX2.out)
  have hr4 := hr3.below (alloc1 w3 (.cells #[.int .i64 op, .slice none 0 0, .string ⟨#[]⟩, .int .i64 0, .int .i64 0, .bool false, .string ⟨#[]⟩, .float .f64 0] 27))
  have hs4 := (HS2.out.only ho3 (fun e => hgs e.symm)).below (alloc1 w3 (.cells #[.int .i64 op, .slice none 0 0, .string ⟨#[]⟩, .int .i64 0, .int .i64 0, .bool false, .string ⟨#[]⟩, .float .f64 0] 27))
  have h68 : w.heap.size < w3.heap.size := Nat.lt_of_lt_of_le (Array.getElem?_eq_some_iff.1 HX2.out).1 ho3.size
  go_upto_region 4 with fail
  generalize w3.alloc (.cells #[.int .i64 op, .slice none 0 0, .string ⟨#[]⟩, .int .i64 0, .int .i64 0, .bool false, .string ⟨#[]⟩, .float .f64 0] 27) = w4 at *
  generalize w3.heap.size = b8 at *
  have FR4 := Lib.hid hfr4
  have HR4 := Lib.hid hr4
  have HS4 := Lib.hid hs4
  have H68 := Lib.hid h68
  have hg8 : g ≠ b8 := by have := HGL.out; omega
  have hs8 : s ≠ b8 := by have := HSL.out; omega
  clear hfr4 hr4 hs4 hX3 hr3 ho3 h68 HR2 HS2 HT2 HX2
  go_wp2_with fail
  refine (Q2.out _ HR4.out).mono ?_
  rintro _ w5 ⟨rfl, hr5, ho5⟩
  have FR5 := Lib.hid (FR4.out.two (ho5.two s) hgb.symm hsb.symm hg8.symm hs8.symm)
  have HS5 := Lib.hid (HS4.out.only ho5 hgs.symm)
  have HR5 := Lib.hid hr5
  clear hr5 ho5 FR4 HS4 HR4
  go_wp2_with fail
  refine (Q3.out _ HR5.out).mono ?_
  rintro _ w6 ⟨u6, rfl, hu6, hr6, ho6⟩
  have hcv : (convert 28 9 u6).run Tryz.prog w6 = .ok (.string (strB m)) w6 := run_str hu6
  have FR6 := Lib.hid (FR5.out.two (ho6.two s) hgb.symm hsb.symm hg8.symm hs8.symm)
  have HS6 := Lib.hid (HS5.out.only ho6 hgs.symm)
  have HR6 := Lib.hid hr6
  have x2 := (heap_at FR6.out.x 2).trans (rfl : _ = some (Value.string ⟨#[]⟩))
  have xf := heap_free FR6.out.x
  have xl : b8 < w6.heap.size := (Array.getElem?_eq_some_iff.1 FR6.out.x).1
  clear hr6 ho6 FR5 HS5 HR5 hu6
  go_upto_region 6 with fail
  have hfr7 : Fr w g s w.heap.size b8 (w6.setCell ⟨b8, 2, none⟩ (.string (strB m))) #[.int .i64 op, .slice none 0 0, .string (strB m), .int .i64 0, .int .i64 0, .bool false, .string ⟨#[]⟩, .float .f64 0] := FR6.out.set (Nat.ne_of_lt H68.out) (Nat.le_of_lt H68.out) 2 _
  have ho7 : Only b8 w6 (w6.setCell ⟨b8, 2, none⟩ (.string (strB m))) := (Only.refl _ _).set _ _
  have HR7 := Lib.hid (HR6.out.offT ho7 hg8 FR6.out.x (by decide))
  have HS7 := Lib.hid (HS6.out.only ho7 hs8)
  have FR7 := Lib.hid hfr7
  generalize w6.setCell ⟨b8, 2, none⟩ (.string (strB m)) = w7 at *
  clear hfr7 ho7 x2 xf xl hcv FR6 HS6 HR6
  go_wp2_with fail
  refine (Q4.out _ HR7.out).mono ?_
  rintro _ w8 ⟨rfl, ⟨r8, e8, hr8, he8⟩, ho8⟩
  have FR8 := FR7.out.two (ho8.two s) hgb.symm hsb.symm hg8.symm hs8.symm
  have hvb := Bx.new w8 v
  have FR9 := Lib.hid (FR8.two (Below.two (alloc1 w8 (.cells #[.int .i64 v.k, .int .i64 v.i, .bool v.b, .string v.s, .float .f64 v.n] 25)) g s) hgb.symm hsb.symm hg8.symm hs8.symm)
  have HR9 := Lib.hid (hr8.below (alloc1 w8 (.cells #[.int .i64 v.k, .int .i64 v.i, .bool v.b, .string v.s, .float .f64 v.n] 25)))
  have HS9 := Lib.hid ((HS7.out.only ho8 hgs.symm).below (alloc1 w8 (.cells #[.int .i64 v.k, .int .i64 v.i, .bool v.b, .string v.s, .float .f64 v.n] 25)))
  have HE8 := Lib.hid he8
  have h810 : b8 < w8.heap.size := (Array.getElem?_eq_some_iff.1 FR8.x).1
  have BX9 := Lib.hid hvb
  have HB9 := Lib.hid h810
  clear FR7 HR7 HS7 hr8 he8 ho8 FR8 hvb h810
  go_upto_region 7 with fail
  generalize w8.alloc (.cells #[.int .i64 v.k, .int .i64 v.i, .bool v.b, .string v.s, .float .f64 v.n] 25) = w9 at *
  generalize w8.heap.size = b10 at *
  by_cases her : ¬ er = 0
  · have hX := herr.out her
    subst hX
    have herb : (er != 0) = true := by simpa using her
    clear her
    have v0 := (heap_at (FR9.out.z) 0).trans (rfl : _ = some (Value.int .i64 0))
    have v1 := (heap_at (FR9.out.z) 1).trans (rfl : _ = some (Value.slice none 0 0))
    have v2 := (heap_at (FR9.out.z) 2).trans (rfl : _ = some (Value.string ⟨#[]⟩))
    have v3 := (heap_at (FR9.out.z) 3).trans (rfl : _ = some (Value.int .i64 0))
    have v4 := (heap_at (FR9.out.z) 4).trans (rfl : _ = some (Value.int .i64 0))
    have v5 := (heap_at (FR9.out.z) 5).trans (rfl : _ = some (Value.bool false))
    have v6 := (heap_at (FR9.out.z) 6).trans (rfl : _ = some (Value.string ⟨#[]⟩))
    have v7 := (heap_at (FR9.out.z) 7).trans (rfl : _ = some (Value.float .f64 0))
    have vf := heap_free FR9.out.z
    have vl : w.heap.size < w9.heap.size := (Array.getElem?_eq_some_iff.1 FR9.out.z).1
    go_wp2
    exact bodyPost_ret (v := .tuple #[agZ, .int .i64 er]) (by simp [results, Tryz.results44, go_sem, v0, v1, v2, v3, v4, v5, v6, v7, vl]) rfl (RpE.mk HR9.out FR9.out.t FR9.out.z (Nat.le_refl _) hgb _ _ _ _ _ _ _ _)
  · replace her := Decidable.not_not.1 her
    subst her
    have herb : ((0 : Int) != 0) = false := rfl
    obtain ⟨rfl, rfl⟩ := HE8.out rfl
    obtain ⟨y0, y1, y2, y3, y4⟩ := BX9.out
    have x3 := (heap_at FR9.out.x 3).trans (rfl : _ = some (Value.int .i64 0))
    have x4 := (heap_at FR9.out.x 4).trans (rfl : _ = some (Value.int .i64 0))
    have x5 := (heap_at FR9.out.x 5).trans (rfl : _ = some (Value.bool false))
    have x6 := (heap_at FR9.out.x 6).trans (rfl : _ = some (Value.string ⟨#[]⟩))
    have x7 := (heap_at FR9.out.x 7).trans (rfl : _ = some (Value.float .f64 0))
    have xf := heap_free FR9.out.x
    have xl : b8 < w9.heap.size := (Array.getElem?_eq_some_iff.1 FR9.out.x).1
    go_upto_region 10 with fail
    have ne68 := Nat.ne_of_lt H68.out
    have le68 := Nat.le_of_lt H68.out
    have hfr10 : Fr w g s w.heap.size b8 (((((w9.setCell ⟨b8, 3, none⟩ (.int .i64 v.k)).setCell ⟨b8, 4, none⟩ (.int .i64 v.i)).setCell ⟨b8, 5, none⟩ (.bool v.b)).setCell ⟨b8, 6, none⟩ (.string v.s)).setCell ⟨b8, 7, none⟩ (.float .f64 v.n)) #[.int .i64 op, .slice none 0 0, .string (strB m), .int .i64 v.k, .int .i64 v.i, .bool v.b, .string v.s, .float .f64 v.n] := ((((FR9.out.set ne68 le68 3 _).set ne68 le68 4 _).set ne68 le68 5 _).set ne68 le68 6 _).set ne68 le68 7 _
    have ho10 : Only b8 w9 (((((w9.setCell ⟨b8, 3, none⟩ (.int .i64 v.k)).setCell ⟨b8, 4, none⟩ (.int .i64 v.i)).setCell ⟨b8, 5, none⟩ (.bool v.b)).setCell ⟨b8, 6, none⟩ (.string v.s)).setCell ⟨b8, 7, none⟩ (.float .f64 v.n)) := (((((Only.refl _ _).set _ _).set _ _).set _ _).set _ _).set _ _
    have HR10 := Lib.hid (HR9.out.offT ho10 hg8 FR9.out.x (by decide))
    have HS10 := Lib.hid (HS9.out.only ho10 hs8)
    have FR10 := Lib.hid hfr10
    generalize (((((w9.setCell ⟨b8, 3, none⟩ (.int .i64 v.k)).setCell ⟨b8, 4, none⟩ (.int .i64 v.i)).setCell ⟨b8, 5, none⟩ (.bool v.b)).setCell ⟨b8, 6, none⟩ (.string v.s)).setCell ⟨b8, 7, none⟩ (.float .f64 v.n)) = w10 at *
    clear hfr10 ho10 x3 x4 x5 x6 x7 xf xl y0 y1 y2 y3 y4 FR9 HR9 HS9 HE8 BX9 HB9 herr ne68 le68
    obtain ⟨i1, hi1, hz1, hsz1, hby1⟩ := infoZ exprinfo
    have HK := Lib.hid (HOK.out rfl)
    clear HOK herb
    generalize hL : getL F c (n - 1) r8 = L at *
    have HL := Lib.hid hL
    clear hL
    go_wp2
    go_loopw [40] (fun i wr => ∃ (k : Nat) (qs : List Kx) (nk : Int) (rk : List UInt8) (row : Value), k ≤ c ∧ i = .int .i64 k ∧ RpI F w g s w.heap.size b8 d c L op (strB m) v wr k qs nk rk row) (fun i _ => c - (intOf i).toNat)
    case atStart =>
      refine ⟨0, [], n - 1, r8, .slice none 0 0, Nat.zero_le _, rfl, ⟨?_, by have := H01.out; omega, by have := H01.out; omega, H4.out, HR10.out, HS10.out, FR10.out, World.ownsRow_nil _ _ _ _, fun q hq => by cases hq⟩⟩
      rw [List.map_nil, pre_nil, Nat.sub_zero]
      exact HL.out
    case round =>
      obtain ⟨k, qs, nk, rk, row, hk, rfl, hi⟩ := hrel
      have HI := Lib.hid hi
      clear hi FR10 HR10 HS10
      by_cases hlt : k < c
      · have hltI : (k : Int) < (c : Int) := by omega
        have hcall := IH.out nk rk wr HI.out.n0 HI.out.n1 HI.out.rd HI.out.sz HI.out.len
        rcases hx : F nk rk with er | ⟨kid, n1, r1⟩
        · rw [hx] at hcall
          have hne := HFE.out nk rk er hx
          have herb : (er != 0) = true := by simpa using hne
          have hL : L = .error er := by rw [← HI.out.pre, show c - k = c - (k + 1) + 1 by omega]; exact pre_no hx
          have hX := HK.out.1 er hL
          subst hX
          have HC := Lib.hid (show Calls _ _ _ _ (RpE g s er wr) from hcall)
          clear hcall hx hne hL hlt
          go_wp2_with fail
          refine HC.out.mono ?_
          rintro _ wA ⟨rfl, ⟨r', e', hrA⟩, htA⟩
          have FA := Lib.hid ((HI.out.fr.two htA hgb.symm hsb.symm hg8.symm hs8.symm).two (Below.two (alloc1 wA (.cells z8 27)) g s) hgb.symm hsb.symm hg8.symm hs8.symm)
          have HRA := Lib.hid (hrA.below (alloc1 wA (.cells z8 27)))
          clear hrA htA
          go_upto_region 13 with fail
          unfold z8 at FA HRA
          generalize wA.alloc (.cells #[.int .i64 0, .slice none 0 0, .string ⟨#[]⟩, .int .i64 0, .int .i64 0, .bool false, .string ⟨#[]⟩, .float .f64 0] 27) = wB at *
          have v0 := (heap_at (FA.out.z) 0).trans (rfl : _ = some (Value.int .i64 0))
          have v1 := (heap_at (FA.out.z) 1).trans (rfl : _ = some (Value.slice none 0 0))
          have v2 := (heap_at (FA.out.z) 2).trans (rfl : _ = some (Value.string ⟨#[]⟩))
          have v3 := (heap_at (FA.out.z) 3).trans (rfl : _ = some (Value.int .i64 0))
          have v4 := (heap_at (FA.out.z) 4).trans (rfl : _ = some (Value.int .i64 0))
          have v5 := (heap_at (FA.out.z) 5).trans (rfl : _ = some (Value.bool false))
          have v6 := (heap_at (FA.out.z) 6).trans (rfl : _ = some (Value.string ⟨#[]⟩))
          have v7 := (heap_at (FA.out.z) 7).trans (rfl : _ = some (Value.float .f64 0))
          have vf := heap_free FA.out.z
          have vl : w.heap.size < wB.heap.size := (Array.getElem?_eq_some_iff.1 FA.out.z).1
          go_wp2
          exact bodyPost_ret (v := .tuple #[agZ, .int .i64 er]) (by simp [results, Tryz.results44, go_sem, v0, v1, v2, v3, v4, v5, v6, v7, vl]) rfl (RpE.mk HRA.out FA.out.t FA.out.z (Nat.le_refl _) hgb _ _ _ _ _ _ _ _)
        · rw [hx] at hcall
          have HC := Lib.hid (show Calls _ _ _ _ (RpO g s d (kid, n1, r1) wr) from hcall)
          have HX := Lib.hid hx
          have HLT := Lib.hid hlt
          have HLI := Lib.hid hltI
          clear hcall hx
          go_wp2_with fail
          refine HC.out.mono ?_
          rintro _ wA ⟨A', c', rfl, hex, hrdA, hszA, htA⟩
          have FA := Lib.hid (HI.out.fr.two htA hgb.symm hsb.symm hg8.symm hs8.symm)
          have HEX := Lib.hid hex
          have HRA := Lib.hid hrdA
          have HSA := Lib.hid hszA
          have HTA := Lib.hid htA
          have hown2 := own_twb HI.out.own htA (by have := HGL.out; have := H68.out; omega) (by have := HSL.out; have := H68.out; omega)
          have HOW := Lib.hid ((hown2.alloc (.cells (Kx.mk kid A' c').cells.toArray 27)).alloc (.cells (Kx.mk kid A' c').cells.toArray 27))
          have hrw := rows_one (wA.alloc (.cells (Kx.mk kid A' c').cells.toArray 27)) (Kx.mk kid A' c').cells 27 8 rfl
          rw [World.size_alloc] at hrw
          have HRW := Lib.hid hrw
          clear hrw
          have x1 := (heap_at FA.out.x 1).trans (rfl : _ = some row)
          have xf := heap_free FA.out.x
          have xl : b8 < wA.heap.size := (Array.getElem?_eq_some_iff.1 FA.out.x).1
          have h00 : ((0 : Int) != 0) = false := rfl
          clear hex hrdA hszA htA hown2 hlt
          go_upto_region 15 with fail
          have hb1 : k + 1 ≤ maxLen := by have := HC4.out; have := HLT.out; unfold maxLen; omega
          have hb2 : (k + 1) * 96 ≤ 140737488355328 := by have := HC4.out; have := HLT.out; omega
          have hb3 : b8 + 1 ≤ ((wA.alloc (.cells (Kx.mk kid A' c').cells.toArray 27)).alloc (.cells (Kx.mk kid A' c').cells.toArray 27)).heap.size := by simp only [World.size_alloc]; omega
          have hb4 : ∀ u ∈ (Kx.mk kid A' c').cells, u.oneCell' = true := fun u hu => kx_one [Kx.mk kid A' c'] u (by rw [List.flatMap_cons, List.flatMap_nil, List.append_nil]; exact hu)
          have HBS := Lib.hid (And.intro hb1 (And.intro hb2 (And.intro hb3 hb4)))
          clear hb1 hb2 hb3 hb4
          have hkb : k + 1 ≤ 4294967295 := by have := HC4.out; have := HLT.out; omega
          go_wp2_with (at_builtin; refine wpList_append_rows rfl (.tmp 55) (.tmp 57) 22 rfl (b8 + 1) 27 i1 agZ 8 96 Tryz.underlying22 hi1 hz1 hsz1 hby1 rfl (by decide) row k _ rfl HOW.out _ 1 _ rfl HRW.out HBS.out.2.2.2 HBS.out.1 HBS.out.2.1 HBS.out.2.2.1 ?_; intro v4 w4 hown4 hgr4 hor4; obtain ⟨A4, c4, rfl⟩ := own_sliceX hown4; have HN := Lib.hid (RpI.next HI.out HLT.out HX.out (HBD.out _ _ _ _ _ HI.out.n0 HX.out) HGL.out HSL.out (Nat.le_refl _) H68.out HEX.out HRA.out HSA.out HTA.out hown4 hgr4 hor4); have hbb := hgr4.block b8 (Nat.lt_of_lt_of_le (Nat.lt_succ_self b8) HBS.out.2.2.1) (fun e => by have := (HOW.out.lt b8 e.symm).1; omega); have hbx := hbb.trans (((alloc1 _ _).block b8 (by simp only [World.size_alloc]; omega)).trans (((alloc1 _ _).block b8 xl).trans FA.out.x)); have x1b := (heap_at hbx 1).trans (rfl : _ = some row); have xfb := heap_free hbx 1; clear hown4 hgr4 hor4 hbb hbx x1 xf xl)
          go_roundw
          case rel => exact ⟨k + 1, _, n1, r1, _, by have := HLT.out; omega, by go_num, HN.out⟩
          case measure => simp [intOf]; have := HLT.out; omega
      · obtain rfl : k = c := by omega
        have hpre := HI.out.pre
        rw [Nat.sub_self, pre_end] at hpre
        have hX := HK.out.2 _ _ _ hpre.symm
        subst hX
        obtain ⟨A2, c2, rfl, hex⟩ := exs_own (T := fun b => w.heap.size < b) HI.out.own HI.out.kids (fun b hb => by have := H68.out; omega) (fun b hb => by have := H68.out; omega) op (strB m) v
        have HEX := Lib.hid hex
        have FA := Lib.hid HI.out.fr
        have HRS := Lib.hid (And.intro HI.out.rd HI.out.sz)
        clear hex hpre HI HL
        have v0 := (heap_at (FA.out.z) 0).trans (rfl : _ = some (Value.int .i64 0))
        have v1 := (heap_at (FA.out.z) 1).trans (rfl : _ = some (Value.slice none 0 0))
        have v2 := (heap_at (FA.out.z) 2).trans (rfl : _ = some (Value.string ⟨#[]⟩))
        have v3 := (heap_at (FA.out.z) 3).trans (rfl : _ = some (Value.int .i64 0))
        have v4 := (heap_at (FA.out.z) 4).trans (rfl : _ = some (Value.int .i64 0))
        have v5 := (heap_at (FA.out.z) 5).trans (rfl : _ = some (Value.bool false))
        have v6 := (heap_at (FA.out.z) 6).trans (rfl : _ = some (Value.string ⟨#[]⟩))
        have v7 := (heap_at (FA.out.z) 7).trans (rfl : _ = some (Value.float .f64 0))
        have x0 := (heap_at (FA.out.x) 0).trans (rfl : _ = some (Value.int .i64 op))
        have x1 := (heap_at (FA.out.x) 1).trans (rfl : _ = some (Value.slice A2 (qs.map Kx.e).length c2))
        have x2 := (heap_at (FA.out.x) 2).trans (rfl : _ = some (Value.string (strB m)))
        have x3 := (heap_at (FA.out.x) 3).trans (rfl : _ = some (Value.int .i64 v.k))
        have x4 := (heap_at (FA.out.x) 4).trans (rfl : _ = some (Value.int .i64 v.i))
        have x5 := (heap_at (FA.out.x) 5).trans (rfl : _ = some (Value.bool v.b))
        have x6 := (heap_at (FA.out.x) 6).trans (rfl : _ = some (Value.string v.s))
        have x7 := (heap_at (FA.out.x) 7).trans (rfl : _ = some (Value.float .f64 v.n))
        have vf := heap_free FA.out.z
        have vl : w.heap.size < wr.heap.size := (Array.getElem?_eq_some_iff.1 FA.out.z).1
        have xl : b8 < wr.heap.size := (Array.getElem?_eq_some_iff.1 FA.out.x).1
        generalize hks : qs.map Kx.e = ks at *
        clear hks
        go_wp2
        exact bodyPost_ret (v := .tuple #[agX op A2 ks.length c2 (strB m) v, .int .i64 0]) (by simp [results, Tryz.results44, go_sem, v0, v1, v2, v3, v4, v5, v6, v7, vl]) rfl (RpO.mk (x := .mk op (strB m) v ks) HEX.out HRS.out.1 HRS.out.2 FA.out.t FA.out.z (Nat.le_refl _) hgb hsb _ _ _ _ _ _ _ _)
set_option maxHeartbeats 8000000 in
theorem readParts_some (g s : Nat) (d : Nat) (n deep : Int) (rest : List UInt8) (w : World) (hgs : g ≠ s) (hd : d + 1 ≤ 6) (hdeep : deep = 7 - ((d + 1 : Nat) : Int)) (h0 : 1 ≤ n) (h1 : n ≤ 24) (hr : RdR w g rest 0) (hs : SzB w s (24 - n)) (hlen : rest.length ≤ 1000000000000)
    (ih : ∀ n rest w, 0 ≤ n → n ≤ 24 → RdR w g rest 0 → SzB w s (24 - n) → rest.length ≤ 1000000000000 → Calls Tryz.prog 44 #[.pointer (some ⟨g, 0, none⟩), .pointer (some ⟨s, 0, none⟩), .int .i64 (deep + 1)] w (RpP g s d (getX d n rest) w)) :
    Calls Tryz.prog 44 #[.pointer (some ⟨g, 0, none⟩), .pointer (some ⟨s, 0, none⟩), .int .i64 deep] w (RpP g s (d + 1) (getX (d + 1) n rest) w) := by
  have q1 : ∀ W, RdR W g rest 0 → Calls Tryz.prog 91 #[.pointer (some ⟨g, 0, none⟩)] W (Did g (.int .i64 (wrap64 ((stepF 8 alInt rest 0).1 : Int))) (stepF 8 alInt rest 0).2.1 (stepF 8 alInt rest 0).2.2 W) := fun W h => Int_any g rest 0 W h
  have l1 := stepF_len 8 alInt rest 0
  rcases hs1 : stepF 8 alInt rest 0 with ⟨o, r1, e1⟩
  rw [hs1] at q1 l1
  have q2 : ∀ W, RdR W g r1 e1 → Calls Tryz.prog 92 #[.pointer (some ⟨g, 0, none⟩), .int .i64 3] W (Did g (.int .i64 (wrap64 ((stepF 4 (alCount 3) r1 e1).1 : Int))) (stepF 4 (alCount 3) r1 e1).2.1 (stepF 4 (alCount 3) r1 e1).2.2 W) := fun W h => Count_any g r1 e1 3 (by decide) (by decide) W h
  have l2 := stepF_len 4 (alCount 3) r1 e1
  have hc4 := step4_le (alCount 3) r1 e1
  rcases hs2 : stepF 4 (alCount 3) r1 e1 with ⟨c, r2, e2⟩
  rw [hs2] at q2 l2 hc4
  dsimp only at q1 q2 l1 l2 hc4
  have hcw : wrap64 (c : Int) = c := by unfold wrap64; omega
  rw [hcw] at q2
  have q3 : ∀ W, RdR W g r2 e2 → Calls Tryz.prog 93 #[.pointer (some ⟨g, 0, none⟩), .int .i64 16] W (DidB g (bytesF 16 r2 e2).1 (bytesF 16 r2 e2).2.1 (bytesF 16 r2 e2).2.2 W) := fun W h => Bytes_any g r2 e2 16 (by decide) (by decide) W h (by omega)
  have l3 := bytesF_len 16 r2 e2
  rcases hs3 : bytesF 16 r2 e2 with ⟨m, r3, e3⟩
  rw [hs3] at q3 l3
  dsimp only at q3 l3
  have q4 : ∀ W, RdR W g r3 e3 → Calls Tryz.prog 94 #[.pointer (some ⟨g, 0, none⟩)] W (RvP g (rvF r3 e3).1 (rvF r3 e3).2.2 (rvF r3 e3).2.1 W) := fun W h => readVal_any g r3 e3 W h (by omega)
  have l4 := rvF_len r3 e3
  rcases hs4 : rvF r3 e3 with ⟨v, r4, er⟩
  rw [hs4] at q4 l4
  dsimp only at q4 l4
  exact readParts_walk g s d n deep 0 rest w hgs hd hdeep h0 h1 hr hs (getX d) (getX_bd d) (getX_er d) (getX (d + 1) n rest) (wrap64 (o : Int)) c m v er e1 e2 e3 r1 r2 r3 r4 ih q1 q2 hc4 q3 q4 (by omega) (fun h => getX_head_err (d := d) (by omega) hs1 hs2 hs3 hs4 h) (fun h => getX_head_ok (d := d) (by omega) hs1 hs2 hs3 (hs4.trans (by rw [h])))
/-- readParts -/
theorem eReadParts_any (g s : Nat) (hgs : g ≠ s) : ∀ (d : Nat) (n deep : Int) (rest : List UInt8) (w : World), d ≤ 6 → deep = 7 - d → 0 ≤ n → n ≤ 24 → RdR w g rest 0 → SzB w s (24 - n) → rest.length ≤ 1000000000000 →
    Calls Tryz.prog 44 #[.pointer (some ⟨g, 0, none⟩), .pointer (some ⟨s, 0, none⟩), .int .i64 deep] w (RpP g s d (getX d n rest) w)
  | 0, n, deep, rest, w, hd, hdeep, h0, h1, hr, hs, hlen => by
    rw [getX_none (.inl rfl)]
    exact readParts_none g s 0 n deep rest w hgs hd hdeep h0 h1 hr hs (.inl rfl)
  | d + 1, n, deep, rest, w, hd, hdeep, h0, h1, hr, hs, hlen => by
    by_cases hn : n < 1
    · rw [getX_none (.inr hn)]
      exact readParts_none g s (d + 1) n deep rest w hgs hd hdeep h0 h1 hr hs (.inr hn)
    · exact readParts_some g s d n deep rest w hgs hd hdeep (by omega) h1 hr hs hlen fun n rest w a b c e f => eReadParts_any g s hgs d n (deep + 1) rest w (by omega) (by omega) a b c e f
/-- behind an error nothing is read -/
theorem readParts_late (g s : Nat) (hgs : g ≠ s) (e0 : Int) (he : e0 ≠ 0) (rest : List UInt8) (w : World) (hr : RdR w g rest e0) (hs : SzB w s (24 - 24)) (hlen : rest.length ≤ 1000000000000) :
    Calls Tryz.prog 44 #[.pointer (some ⟨g, 0, none⟩), .pointer (some ⟨s, 0, none⟩), .int .i64 1] w (RpE g s e0 w) := by
  have s1 : stepF 8 alInt rest e0 = (0, rest, e0) := by unfold stepF; rw [if_pos he]
  have s2 : stepF 4 (alCount 3) rest e0 = (0, rest, e0) := by unfold stepF; rw [if_pos he]
  have s3 : bytesF 16 rest e0 = ([], rest, e0) := by
    have h : stepF 4 (alBytes 16 rest) rest e0 = (0, rest, e0) := by unfold stepF; rw [if_pos he]
    unfold bytesF
    rw [h, if_pos rfl]
  have s4 := rvF_err rest e0 he
  have hw0 : wrap64 ((0 : Nat) : Int) = 0 := by unfold wrap64; omega
  have q1 : ∀ W, RdR W g rest e0 → Calls Tryz.prog 91 #[.pointer (some ⟨g, 0, none⟩)] W (Did g (.int .i64 0) rest e0 W) := fun W h => by
    have h := Int_any g rest e0 W h
    rw [s1] at h
    dsimp only at h
    rw [hw0] at h
    exact h
  have q2 : ∀ W, RdR W g rest e0 → Calls Tryz.prog 92 #[.pointer (some ⟨g, 0, none⟩), .int .i64 3] W (Did g (.int .i64 ((0 : Nat) : Int)) rest e0 W) := fun W h => by
    have h := Count_any g rest e0 3 (by decide) (by decide) W h
    rw [s2] at h
    dsimp only at h
    rw [hw0] at h
    exact h
  have q3 : ∀ W, RdR W g rest e0 → Calls Tryz.prog 93 #[.pointer (some ⟨g, 0, none⟩), .int .i64 16] W (DidB g [] rest e0 W) := fun W h => by
    have h := Bytes_any g rest e0 16 (by decide) (by decide) W h (by omega)
    rw [s3] at h
    exact h
  have q4 : ∀ W, RdR W g rest e0 → Calls Tryz.prog 94 #[.pointer (some ⟨g, 0, none⟩)] W (RvP g vZero e0 rest W) := fun W h => by
    have h := readVal_any g rest e0 W h hlen
    rw [s4] at h
    exact h
  exact readParts_walk g s 5 24 1 e0 rest w hgs (by omega) (by decide) (by decide) (by decide) hr hs (getX 5) (getX_bd 5) (getX_er 5) (.error e0) 0 0 [] vZero e0 e0 e0 e0 rest rest rest rest
    (fun n rest w a b c e f => eReadParts_any g s hgs 5 n 2 rest w (by omega) (by decide) a b c e f) q1 q2 (by omega) q3 q4 hlen (fun _ => rfl) (fun h => absurd h he)
end Go.Proofs.YtkhpgejammgolaaGreat
